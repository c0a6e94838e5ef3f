package trie

import (
	"cmp"
	"errors"
	"iter"
	"math"
	"slices"
	"strconv"
	"strings"
	"testing"

	"guidepost/api"
)

// pair is a prefix with its value.
type pair[V any] struct {
	prefix api.Prefix
	value  V
}

// model is a trie worked out in another way than the program's: a list without order, in which bits are compared as texts of '0' and '1'.
type model struct {
	limit int
	list  []pair[int]
}

// digits are the 32 bits of an address.
func digits(a api.Addr) string { return strconv.FormatUint(1<<32|uint64(a), 2)[1:] }

// stem are a prefix's first bits.
func stem(p api.Prefix) string { return digits(p.Addr)[:p.Len] }

func mayBe(p api.Prefix) bool {
	return p.Len >= 0 && p.Len <= 32 && !strings.Contains(digits(p.Addr)[p.Len:], "1")
}

func (m *model) at(p api.Prefix) int {
	return slices.IndexFunc(m.list, func(x pair[int]) bool { return x.prefix == p })
}

func (m *model) insert(p api.Prefix, v int) api.Errno {
	i := m.at(p)
	switch {
	case !mayBe(p):
		return api.ErrArg
	case i >= 0:
		m.list[i].value = v
		return api.OK
	case len(m.list) >= m.limit:
		return api.ErrFull
	}
	m.list = append(m.list, pair[int]{p, v})
	return api.OK
}

func (m *model) delete(p api.Prefix) api.Errno {
	i := m.at(p)
	switch {
	case !mayBe(p):
		return api.ErrArg
	case i < 0:
		return api.ErrNone
	}
	m.list = slices.Delete(m.list, i, i+1)
	return api.OK
}

func (m *model) get(p api.Prefix) (int, bool) {
	if i := m.at(p); i >= 0 {
		return m.list[i].value, true
	}
	return 0, false
}

func (m *model) all() []pair[int] {
	return slices.SortedFunc(slices.Values(m.list), func(x, y pair[int]) int {
		return cmp.Or(cmp.Compare(x.prefix.Addr, y.prefix.Addr), cmp.Compare(x.prefix.Len, y.prefix.Len))
	})
}

func (m *model) covers(a api.Addr) []pair[int] {
	var l []pair[int]
	for n := range 33 {
		for _, x := range m.list {
			if x.prefix.Len == n && strings.HasPrefix(digits(a), stem(x.prefix)) {
				l = append(l, x)
			}
		}
	}
	return l
}

// nodes are those of the form as the document tells it: one for each prefix, and one for the longest bits that two begin with.
func (m *model) nodes() int {
	places := map[string]int{}
	for _, x := range m.list {
		for _, y := range m.list {
			s := stem(x.prefix)
			for !strings.HasPrefix(stem(y.prefix), s) {
				s = s[:len(s)-1]
			}
			places[s] = 1
		}
	}
	return len(places)
}

func (m *model) copied() *model { return &model{m.limit, slices.Clone(m.list)} }

// gone is what is gone over.
func gone[V any](s iter.Seq2[api.Prefix, V]) []pair[V] {
	var l []pair[V]
	for p, v := range s {
		l = append(l, pair[V]{p, v})
	}
	return l
}

// probes are addresses within, at the ends of, and just beside the prefixes.
func probes(l []api.Prefix) []api.Addr {
	a := []api.Addr{0, 1, 0x7fffffff, 0x80000000, 0xfffffffe, 0xffffffff}
	for _, p := range l {
		last := p.Addr | api.Addr(uint64(1)<<(32-p.Len)-1)
		a = append(a, p.Addr, p.Addr-1, last, last+1)
	}
	slices.Sort(a)
	return slices.Compact(a)
}

func prefixesOf(m *model) []api.Prefix {
	var l []api.Prefix
	for _, x := range m.list {
		l = append(l, x.prefix)
	}
	return l
}

// held fails if anything that x tells is another thing than m's. Prefixes that it need not have, and what is around them, may be named.
func held(t *testing.T, x *Trie[int], m *model, more ...api.Prefix) {
	t.Helper()
	if x.Len() != len(m.list) || x.Nodes() != m.nodes() {
		t.Fatalf("%v: Len %d, Nodes %d, not %d", m.list, x.Len(), x.Nodes(), m.nodes())
	}
	if got, want := gone(x.All()), m.all(); !slices.Equal(got, want) {
		t.Fatalf("All: %v, not %v", got, want)
	}
	around := slices.Concat(prefixesOf(m), more)
	for _, p := range around {
		got, has := x.Get(p)
		if want, is := m.get(p); got != want || has != is {
			t.Fatalf("%v: Get(%v): %d, %t, not %d, %t", m.list, p, got, has, want, is)
		}
	}
	for _, a := range probes(around) {
		covers(t, x, m, a)
	}
}

func covers(t *testing.T, x *Trie[int], m *model, a api.Addr) {
	t.Helper()
	want := m.covers(a)
	if got := gone(x.Covers(a)); !slices.Equal(got, want) {
		t.Fatalf("Covers(%x): %v, not %v", uint32(a), got, want)
	}
	var last pair[int]
	if len(want) > 0 {
		last = want[len(want)-1]
	}
	if p, v, is := x.Match(a); p != last.prefix || v != last.value || is != (len(want) > 0) {
		t.Fatalf("Match(%x): %v, %d, %t, not %v", uint32(a), p, v, is, want)
	}
}

// insert and delete do the same to both, and fail if these do not answer the same.
func insert(t *testing.T, x *Trie[int], m *model, p api.Prefix, v int) {
	t.Helper()
	if got, want := x.Insert(p, v), m.insert(p, v); got != want {
		t.Fatalf("%v: Insert(%v): %d, not %d", m.list, p, got, want)
	}
}

func remove(t *testing.T, x *Trie[int], m *model, p api.Prefix) {
	t.Helper()
	if got, want := x.Delete(p), m.delete(p); got != want {
		t.Fatalf("%v: Delete(%v): %d, not %d", m.list, p, got, want)
	}
}

// of are a trie and a model with just these prefixes, whose values are 1, 2, 3 and on.
func of(t *testing.T, limit int, l ...api.Prefix) (*Trie[int], *model) {
	t.Helper()
	x, m := New[int](limit), &model{limit: limit}
	for i, p := range l {
		if e := x.Insert(p, i+1); e != api.OK {
			t.Fatalf("Insert(%v): %d", p, e)
		}
		m.insert(p, i+1)
	}
	return x, m
}

func pre(a api.Addr, n int) api.Prefix { return api.Prefix{Addr: a, Len: n} }

// cut is the prefix of so many bits that has the address.
func cut(a api.Addr, n int) api.Prefix {
	return pre(api.Addr(uint64(a)>>(32-n)<<(32-n)), n)
}

// turned is an address but for one bit.
func turned(a api.Addr, bit int) api.Addr { return a ^ 1<<(31-bit) }

// some are prefixes of all kinds: of every other one there are ones above, below and beside it.
func some() []api.Prefix {
	return []api.Prefix{
		pre(0, 0), pre(0, 1), pre(0, 31), pre(0, 32), pre(1, 32),
		pre(0x0a000000, 8), pre(0x0a010000, 16), pre(0x0a020000, 16), pre(0x0a010203, 32), pre(0x0a010200, 23),
		pre(0x80000000, 1), pre(0xc0a80000, 16), pre(0xfffffffe, 31), pre(0xfffffffe, 32), pre(0xffffffff, 32),
	}
}

// wrong are prefixes that may not be.
func wrong() []api.Prefix {
	var l []api.Prefix
	for _, n := range []int{math.MinInt, math.MinInt + 31, math.MinInt + 32, math.MinInt + 33, -1 << 32, -256, -33, -32, -2, -1, 33, 34, 63, 64, 65, 256, 1 << 32, 1<<32 + 8, math.MaxInt} {
		for _, a := range []api.Addr{0, 1, 0x0a000000, 0x80000000, 0xffffffff} {
			l = append(l, pre(a, n))
		}
	}
	for n := range 32 {
		l = append(l, pre(0xffffffff, n))
		for bit := n; bit < 32; bit++ {
			l = append(l, pre(turned(0, bit), n), pre(turned(cut(0xffffffff, n).Addr, bit), n))
		}
	}
	return l
}

// missing are tries that are not there, and zero ones.
func missing() []*Trie[int] { return []*Trie[int]{nil, {}, new(Trie[int])} }

// P9.1

func TestNew(t *testing.T) {
	for _, limit := range []int{math.MinInt, -1 << 32, -2, -1, 0, 1, 2, 3, 5, 14, 15, 16, 100, math.MaxInt} {
		x, m := New[int](limit), &model{limit: limit}
		if x == nil {
			t.Fatal(limit)
		}
		held(t, x, m, some()...)
		for i, p := range some() {
			insert(t, x, m, p, i)
			held(t, x, m, some()...)
		}
		if x.Len() != min(max(limit, 0), len(some())) {
			t.Error(limit, x.Len())
		}
	}
}

func TestNewEachApart(t *testing.T) {
	x, y := New[int](3), New[int](3)
	x.Insert(pre(0, 4), 1)
	held(t, y, &model{limit: 3}, pre(0, 4))
	y.Insert(pre(0, 4), 2)
	held(t, x, &model{3, []pair[int]{{pre(0, 4), 1}}})
}

func TestNoRoom(t *testing.T) {
	for _, limit := range []int{math.MinInt, -1, 0} {
		x := New[int](limit)
		for _, p := range some() {
			if e := x.Insert(p, 1); e != api.ErrFull {
				t.Errorf("New(%d): Insert(%v): %d", limit, p, e)
			}
			if e := x.Delete(p); e != api.ErrNone {
				t.Errorf("New(%d): Delete(%v): %d", limit, p, e)
			}
		}
		held(t, x, &model{}, some()...)
	}
}

func TestManyPrefixes(t *testing.T) {
	const many = 3000
	x := New[int](many)
	for i := range many {
		// Each has its own first 12 bits, 0 to 2999, in an order that is not theirs.
		if e := x.Insert(pre(api.Addr(i*7%many)<<20, 12+i%21), i); e != api.OK {
			t.Fatal(i, e)
		}
		if n := x.Nodes(); x.Len() != i+1 || n > 2*i+1 {
			t.Fatal(i, x.Len(), n)
		}
	}
	if e := x.Insert(pre(0, 0), 1); e != api.ErrFull {
		t.Error(e)
	}
	if n := len(gone(x.All())); n != many || x.Nodes() != 2*many-1 {
		t.Error(n, x.Nodes())
	}
	for i := range many {
		p := pre(api.Addr(i*7%many)<<20, 12+i%21)
		if q, v, is := x.Match(p.Addr); q != p || v != i || !is {
			t.Fatal(i, q, v, is)
		}
		if e := x.Delete(p); e != api.OK || x.Len() != many-i-1 {
			t.Fatal(i, e, x.Len())
		}
	}
	held(t, x, &model{}, some()...)
}

func TestInsertAgain(t *testing.T) {
	for _, limit := range []int{len(some()), len(some()) + 1, 1000} {
		x, m := of(t, limit, some()...)
		for round := range 3 {
			for i, p := range some() {
				insert(t, x, m, p, 1000*round-i)
				if v, has := x.Get(p); v != 1000*round-i || !has {
					t.Fatalf("Get(%v): %d, %t", p, v, has)
				}
			}
			held(t, x, m)
		}
	}
}

func TestFull(t *testing.T) {
	x, m := of(t, 2, pre(0x0a010000, 16), pre(0x0a020000, 16))
	fork := pre(0x0a000000, 14)
	if x.Nodes() != 3 {
		t.Fatal(x.Nodes())
	}
	// The place where two ways part is no prefix, though a node is there.
	for _, p := range []api.Prefix{fork, pre(0, 0), pre(0x0a010000, 17), pre(0x0a000000, 15), pre(0x0b000000, 8)} {
		if e := x.Insert(p, 9); e != api.ErrFull {
			t.Errorf("Insert(%v): %d", p, e)
		}
		if e := x.Delete(p); e != api.ErrNone {
			t.Errorf("Delete(%v): %d", p, e)
		}
		held(t, x, m, p)
	}
	remove(t, x, m, pre(0x0a010000, 16))
	held(t, x, m, fork)
	insert(t, x, m, fork, 7)
	held(t, x, m, fork)
	insert(t, x, m, pre(0x0a010000, 16), 8)
	held(t, x, m, fork, pre(0x0a010000, 16))
}

func TestWrongPrefixes(t *testing.T) {
	full, m := of(t, len(some()), some()...)
	roomy, n := of(t, 1000, some()...)
	for _, p := range wrong() {
		for _, x := range []*Trie[int]{New[int](0), New[int](-1), New[int](5), full, roomy} {
			if e := x.Insert(p, 9); e != api.ErrArg {
				t.Fatalf("Insert(%v): %d", p, e)
			}
			if e := x.Delete(p); e != api.ErrArg {
				t.Fatalf("Delete(%v): %d", p, e)
			}
			if v, has := x.Get(p); v != 0 || has {
				t.Fatalf("Get(%v): %d, %t", p, v, has)
			}
		}
	}
	held(t, full, m)
	held(t, roomy, n)
}

func TestWhichErrorIsFirst(t *testing.T) {
	full, _ := of(t, 1, pre(0, 4))
	var none *Trie[int]
	bad, out := pre(1, 0), pre(0, 5)
	for i, x := range []struct{ got, want api.Errno }{
		{none.Insert(bad, 1), api.ErrNil},
		{none.Insert(out, 1), api.ErrNil},
		{none.Delete(bad), api.ErrNil},
		{none.Delete(out), api.ErrNil},
		{new(Trie[int]).Insert(bad, 1), api.ErrNil},
		{new(Trie[int]).Insert(out, 1), api.ErrNil},
		{new(Trie[int]).Delete(bad), api.ErrNil},
		{new(Trie[int]).Delete(out), api.ErrNil},
		{full.Insert(bad, 1), api.ErrArg},
		{full.Insert(out, 1), api.ErrFull},
		{full.Delete(bad), api.ErrArg},
		{full.Delete(out), api.ErrNone},
		{New[int](0).Insert(bad, 1), api.ErrArg},
		{New[int](0).Insert(out, 1), api.ErrFull},
		{New[int](0).Delete(bad), api.ErrArg},
		{New[int](0).Delete(out), api.ErrNone},
		{full.Insert(pre(0, 4), 2), api.OK},
		{full.Delete(pre(0, 4)), api.OK},
	} {
		if x.got != x.want {
			t.Errorf("%d: %d, not %d", i, x.got, x.want)
		}
	}
}

func TestDeleteWhatIsNotThere(t *testing.T) {
	x, m := of(t, 100, some()...)
	for _, p := range some() {
		// Above, below and beside each of them.
		var l []api.Prefix
		for n := range 33 {
			l = append(l, cut(p.Addr, n), cut(turned(p.Addr, max(p.Len-1, 0)), n))
		}
		for _, q := range l {
			if m.at(q) >= 0 {
				continue
			}
			if e := x.Delete(q); e != api.ErrNone {
				t.Fatalf("Delete(%v): %d", q, e)
			}
		}
		held(t, x, m, l...)
	}
	for range 2 {
		remove(t, x, m, pre(0x0a010000, 16))
		held(t, x, m, some()...)
	}
}

// TestDeleteByWaysBelow: a prefix with two ways below it, with one, with none.
func TestDeleteByWaysBelow(t *testing.T) {
	top, left, right := pre(0x0a000000, 8), pre(0x0a000000, 9), pre(0x0a800000, 9)
	for _, x := range []struct {
		l    []api.Prefix
		less api.Prefix
		// How many nodes there are ahead of it, and behind.
		ahead, behind int
	}{
		{[]api.Prefix{top}, top, 1, 0},
		{[]api.Prefix{top, left}, top, 2, 1},
		{[]api.Prefix{top, right}, top, 2, 1},
		{[]api.Prefix{top, left, right}, top, 3, 3},
		{[]api.Prefix{top, left, right}, left, 3, 2},
		{[]api.Prefix{top, left, right}, right, 3, 2},
		{[]api.Prefix{left, right}, left, 3, 1},
		{[]api.Prefix{left, right}, right, 3, 1},
		{[]api.Prefix{pre(0, 0), left, right}, left, 4, 2},
		{[]api.Prefix{pre(0, 0), left, right}, pre(0, 0), 4, 3},
		{[]api.Prefix{left, right, pre(0x0b000000, 8)}, left, 5, 3},
		{[]api.Prefix{left, right, pre(0x0b000000, 8)}, pre(0x0b000000, 8), 5, 3},
		{[]api.Prefix{top, left, right, pre(0x0b000000, 8)}, top, 5, 5},
	} {
		y, m := of(t, 10, x.l...)
		if y.Nodes() != x.ahead {
			t.Errorf("%v: %d", x.l, y.Nodes())
		}
		remove(t, y, m, x.less)
		if y.Nodes() != x.behind {
			t.Errorf("%v without %v: %d", x.l, x.less, y.Nodes())
		}
		held(t, y, m, x.l...)
	}
}

// TestPlaceBecomesAPrefix: where two ways part, a prefix comes, and goes.
func TestPlaceBecomesAPrefix(t *testing.T) {
	fork := pre(0x0a000000, 14)
	l := []api.Prefix{pre(0x0a010000, 16), pre(0x0a020000, 16), fork}
	x, m := of(t, 3, l[:2]...)
	for i := range 3 {
		if _, has := x.Get(fork); has || x.Nodes() != 3 || x.Len() != 2 {
			t.Fatal(has, x.Nodes(), x.Len())
		}
		insert(t, x, m, fork, i)
		held(t, x, m, l...)
		if x.Nodes() != 3 || x.Len() != 3 {
			t.Fatal(x.Nodes(), x.Len())
		}
		remove(t, x, m, fork)
		held(t, x, m, l...)
	}
	// It goes with either of its ways.
	for _, p := range l[:2] {
		y, n := x.Copy(), m.copied()
		remove(t, y, n, p)
		held(t, y, n, l...)
		if y.Nodes() != 1 {
			t.Error(y.Nodes())
		}
	}
}

// orders are all orders of 0 to n less 1.
func orders(n int) [][]int {
	if n == 0 {
		return [][]int{nil}
	}
	var l [][]int
	for _, o := range orders(n - 1) {
		for i := range n {
			l = append(l, slices.Insert(slices.Clone(o), i, n-1))
		}
	}
	return l
}

func TestAllDeletedInAnyOrder(t *testing.T) {
	l := []api.Prefix{pre(0, 0), pre(0x0a010000, 16), pre(0x0a020000, 16), pre(0x0a020400, 24), pre(0xffffffff, 32), pre(0x0a020480, 25)}
	all := orders(len(l))
	for i, o := range all {
		x, m := New[int](len(l)), &model{limit: len(l)}
		into := all[(i*97+31)%len(all)]
		for _, k := range into {
			insert(t, x, m, l[k], k)
		}
		for _, k := range o {
			held(t, x, m)
			remove(t, x, m, l[k])
		}
		held(t, x, m, l...)
		if x.Len() != 0 || x.Nodes() != 0 {
			t.Fatal(into, o, x.Len(), x.Nodes())
		}
	}
}

// world is a prefix, two that part right below it, and two each right below these; the rest of their bits are an address's.
func world(a api.Addr, one, two, three int) []api.Prefix {
	l := []api.Prefix{cut(a, one)}
	for _, b := range []api.Addr{a, turned(a, one)} {
		l = append(l, cut(b, two), cut(b, three), cut(turned(b, two), three))
	}
	return l
}

// TestEachStep: each set of prefixes of a small world, and each of them inserted or deleted there.
func TestEachStep(t *testing.T) {
	for _, l := range [][]api.Prefix{
		world(0, 0, 1, 2), world(0xffffffff, 0, 1, 2), world(0, 30, 31, 32), world(0xffffffff, 30, 31, 32),
		world(0x0a010203, 0, 9, 32), world(0x5a5a5a5a, 7, 8, 31), world(0xa5a5a5a5, 3, 16, 20),
	} {
		for set := range 1 << len(l) {
			x, m := New[int](len(l)), &model{limit: len(l)}
			for i := range l {
				// The order is another one for each set, too.
				if k := (i*3 + set) % len(l); set>>k&1 == 1 {
					insert(t, x, m, l[k], k)
				}
			}
			held(t, x, m, l...)
			for k, p := range l {
				y, n := x.Copy(), m.copied()
				if set>>k&1 == 1 {
					remove(t, y, n, p)
				} else {
					insert(t, y, n, p, k)
				}
				held(t, y, n, l...)
			}
			held(t, x, m, l...)
		}
	}
}

// TestPartAtEachBit: two addresses that part at each bit, the first one and the last one among them.
func TestPartAtEachBit(t *testing.T) {
	for _, a := range []api.Addr{0, 0xffffffff, 0x0a010203, 0x5555aaaa} {
		for bit := range 32 {
			b := turned(a, bit)
			l := []api.Prefix{pre(a, 32), pre(b, 32), cut(a, bit), cut(a, bit+1), cut(b, bit+1)}
			x, m := New[int](5), &model{limit: 5}
			for i, p := range l[:3] {
				insert(t, x, m, p, i)
				held(t, x, m, l...)
				if x.Nodes() != []int{1, 3, 3}[i] {
					t.Fatal(bit, i, x.Nodes())
				}
			}
			for i, p := range l[3:] {
				insert(t, x, m, p, 7+i)
				held(t, x, m, l...)
			}
			for _, p := range l {
				remove(t, x, m, p)
				held(t, x, m, l...)
			}
		}
	}
}

func TestRefusedChangesNothing(t *testing.T) {
	x, m := of(t, len(some()), some()...)
	before := gone(x.All())
	for _, p := range slices.Concat(wrong(), []api.Prefix{pre(0, 2), pre(0x0a000000, 7), pre(0x0a010203, 31), pre(0xffffffff, 31)}) {
		if x.Insert(p, 99) == api.OK || x.Delete(p) == api.OK {
			continue
		}
		if !slices.Equal(gone(x.All()), before) {
			t.Fatalf("changed by %v", p)
		}
	}
	held(t, x, m)
}

// P9.2

func TestGet(t *testing.T) {
	x, m := of(t, 100, some()...)
	for i, p := range some() {
		if v, has := x.Get(p); v != i+1 || !has {
			t.Errorf("Get(%v): %d, %t", p, v, has)
		}
	}
	// Not by an address that it has, nor by a longer or a shorter one.
	for _, p := range []api.Prefix{pre(0x0a000000, 7), pre(0x0a000000, 9), pre(0x0a010000, 15), pre(0x0a000000, 14), pre(0x0a010204, 32), pre(0x80000000, 2), pre(0xfffffffc, 30), pre(0, 2)} {
		if v, has := x.Get(p); v != 0 || has {
			t.Errorf("Get(%v): %d, %t", p, v, has)
		}
	}
	held(t, x, m)
}

func TestMatch(t *testing.T) {
	x, _ := of(t, 100, some()...)
	for _, y := range []struct {
		a api.Addr
		p api.Prefix
		v int
	}{
		{0, pre(0, 32), 4},
		{1, pre(1, 32), 5},
		{2, pre(0, 1), 2},
		{0x0a010203, pre(0x0a010203, 32), 9},
		{0x0a010202, pre(0x0a010200, 23), 10},
		{0x0a0103ff, pre(0x0a010200, 23), 10},
		{0x0a010400, pre(0x0a010000, 16), 7},
		{0x0a02ffff, pre(0x0a020000, 16), 8},
		{0x0a030000, pre(0x0a000000, 8), 6},
		{0x7fffffff, pre(0, 1), 2},
		{0x80000000, pre(0x80000000, 1), 11},
		{0xc0a8ffff, pre(0xc0a80000, 16), 12},
		{0xfffffffd, pre(0x80000000, 1), 11},
		{0xfffffffe, pre(0xfffffffe, 32), 14},
		{0xffffffff, pre(0xffffffff, 32), 15},
	} {
		if p, v, is := x.Match(y.a); p != y.p || v != y.v || !is {
			t.Errorf("Match(%x): %v, %d, %t", uint32(y.a), p, v, is)
		}
	}
}

func TestAddressThatNoPrefixHas(t *testing.T) {
	x, m := of(t, 100, pre(0x0a000000, 8), pre(0x0a010000, 16), pre(0x0a020000, 16), pre(0x80000000, 1), pre(5, 32))
	for _, a := range []api.Addr{0, 4, 6, 0x09ffffff, 0x0b000000, 0x7fffffff} {
		if p, v, is := x.Match(a); p != (api.Prefix{}) || v != 0 || is {
			t.Errorf("Match(%x): %v, %d, %t", uint32(a), p, v, is)
		}
		if l := gone(x.Covers(a)); l != nil {
			t.Errorf("Covers(%x): %v", uint32(a), l)
		}
	}
	held(t, x, m)
}

func TestAddressThat33Have(t *testing.T) {
	for _, a := range []api.Addr{0, 0xffffffff, 0x0a010203, 0xaaaaaaaa} {
		var l []api.Prefix
		for n := range 33 {
			l = append(l, cut(a, (n*20+7)%33))
		}
		x, m := of(t, 33, l...)
		held(t, x, m)
		if x.Nodes() != 33 {
			t.Error(x.Nodes())
		}
		for i, y := range gone(x.Covers(a)) {
			if y.prefix != cut(a, i) {
				t.Error(i, y)
			}
		}
		// Of one that parts from it at a bit, just those up to there.
		for bit := range 32 {
			if l := gone(x.Covers(turned(a, bit))); len(l) != bit+1 {
				t.Error(bit, l)
			}
		}
		for n := 32; n >= 0; n-- {
			if p, _, is := x.Match(a); p != cut(a, n) || !is {
				t.Error(n, p, is)
			}
			remove(t, x, m, cut(a, n))
			held(t, x, m)
		}
	}
}

func TestZerosBesideNone(t *testing.T) {
	x := New[string](1)
	x.Insert(pre(0x0a000000, 8), "ten")
	x.Insert(pre(0x0a000000, 8), "TEN")
	if v, has := x.Get(pre(0x0a000000, 9)); v != "" || has {
		t.Error(v, has)
	}
	if p, v, is := x.Match(0x0b000000); p != (api.Prefix{}) || v != "" || is {
		t.Error(p, v, is)
	}
	if v, has := x.Get(pre(0x0a000000, 8)); v != "TEN" || !has {
		t.Error(v, has)
	}
	if p, v, is := x.Match(0x0a0a0a0a); p != pre(0x0a000000, 8) || v != "TEN" || !is {
		t.Error(p, v, is)
	}
}

// P9.3

func TestAllInOrder(t *testing.T) {
	l := some()
	for range 20 {
		// Whatever the order in which they came.
		l = append(l[4:], l[:4]...)
		l[0], l[7] = l[7], l[0]
		x, m := of(t, 15, l...)
		var got []api.Prefix
		for p := range x.All() {
			got = append(got, p)
		}
		if want := []api.Prefix{
			pre(0, 0), pre(0, 1), pre(0, 31), pre(0, 32), pre(1, 32),
			pre(0x0a000000, 8), pre(0x0a010000, 16), pre(0x0a010200, 23), pre(0x0a010203, 32), pre(0x0a020000, 16),
			pre(0x80000000, 1), pre(0xc0a80000, 16), pre(0xfffffffe, 31), pre(0xfffffffe, 32), pre(0xffffffff, 32),
		}; !slices.Equal(got, want) {
			t.Fatal(got)
		}
		held(t, x, m)
	}
}

// seq is what goes over a trie, and what it must tell.
type seq struct {
	s    iter.Seq2[api.Prefix, int]
	want []pair[int]
}

// seqs are both ways to go over a trie.
func seqs(x *Trie[int], m *model, a api.Addr) map[string]seq {
	return map[string]seq{"All": {x.All(), m.all()}, "Covers": {x.Covers(a), m.covers(a)}}
}

func TestLeftAtAnyTime(t *testing.T) {
	x, m := of(t, 100, some()...)
	for name, y := range seqs(x, m, 0x0a010203) {
		for range 2 {
			for most := range len(y.want) + 2 {
				var got []pair[int]
				for p, v := range y.s {
					if len(got) == most {
						break
					}
					got = append(got, pair[int]{p, v})
				}
				if !slices.Equal(got, y.want[:min(most, len(y.want))]) {
					t.Errorf("%s left behind %d: %v", name, most, got)
				}
			}
			// Only in part, and then the whole.
			if got := gone(y.s); !slices.Equal(got, y.want) {
				t.Errorf("%s: %v", name, got)
			}
		}
	}
	held(t, x, m)
}

// TestNoneIsHandedBehindTheEnd: what says that it has enough is handed no more.
func TestNoneIsHandedBehindTheEnd(t *testing.T) {
	x, m := of(t, 100, some()...)
	for name, y := range seqs(x, m, 0) {
		for most := range len(y.want) {
			n := 0
			y.s(func(api.Prefix, int) bool {
				n++
				return n <= most
			})
			if n != most+1 {
				t.Errorf("%s: %d, not %d", name, n, most+1)
			}
		}
		// Where nobody is handed any, nothing is done.
		y.s(nil)
	}
}

func TestGoneThroughWithinItself(t *testing.T) {
	x, m := of(t, 100, some()...)
	for name, y := range seqs(x, m, 0x0a010203) {
		n := 0
		for range y.s {
			if got := gone(y.s); !slices.Equal(got, y.want) {
				t.Errorf("%s: %v", name, got)
			}
			n++
		}
		if n != len(y.want) {
			t.Errorf("%s: %d", name, n)
		}
	}
}

// TestAsItWas: what goes over a trie is as that was at the call, whatever is done behind it.
func TestAsItWas(t *testing.T) {
	x, m := of(t, 20, some()...)
	var kept []func()
	keep := func() {
		for name, y := range seqs(x, m, 0x0a010203) {
			kept = append(kept, func() {
				t.Helper()
				for range 2 {
					if got := gone(y.s); !slices.Equal(got, y.want) {
						t.Fatalf("%s: %v, not %v", name, got, y.want)
					}
				}
			})
		}
		for _, f := range kept {
			f()
		}
	}
	keep()
	for i, p := range some() {
		insert(t, x, m, p, 100+i)
		keep()
	}
	for _, p := range []api.Prefix{pre(0x0a010202, 31), pre(0x0a010203, 32), pre(0x0a010200, 24), pre(0x0a000000, 14), pre(0x0a010000, 17)} {
		insert(t, x, m, p, 50)
		keep()
	}
	for _, p := range prefixesOf(m) {
		remove(t, x, m, p)
		keep()
	}
	held(t, x, m, some()...)
	insert(t, x, m, pre(0, 0), 9)
	keep()
}

// TestChangedInTheMiddle: prefixes come and go while one goes over them; the trie has them at once, what goes over it never.
func TestChangedInTheMiddle(t *testing.T) {
	for _, name := range []string{"All", "Covers"} {
		x, m := of(t, 100, some()...)
		y := seqs(x, m, 0x0a010203)[name]
		var got []pair[int]
		for p, v := range y.s {
			got = append(got, pair[int]{p, v})
			for i, q := range some() {
				if q != p && i%2 == len(got)%2 {
					x.Delete(q)
					m.delete(q)
				}
			}
			insert(t, x, m, p, -v)
			insert(t, x, m, cut(0x0a010203, 32-len(got)%33), 77)
			insert(t, x, m, cut(0x0a010204, 32-len(got)%33), 78)
			held(t, x, m, some()...)
		}
		if !slices.Equal(got, y.want) {
			t.Errorf("%s: %v, not %v", name, got, y.want)
		}
		// Emptied in the middle, and filled anew.
		z := seqs(x, m, 0x0a010203)[name]
		got = nil
		for p, v := range z.s {
			got = append(got, pair[int]{p, v})
			for _, q := range prefixesOf(m) {
				remove(t, x, m, q)
			}
			held(t, x, m)
			insert(t, x, m, pre(0, 0), 5)
		}
		if !slices.Equal(got, z.want) || len(got) < 2 {
			t.Errorf("%s: %v, not %v", name, got, z.want)
		}
	}
}

func TestCallsSeveralAtOnce(t *testing.T) {
	x := New[int](3)
	nothing := x.All()
	x.Insert(pre(0, 0), 1)
	one := x.All()
	x.Insert(pre(0x80000000, 1), 2)
	two, has := x.All(), x.Covers(0x80000000)
	x.Delete(pre(0, 0))
	for i, y := range []seq{
		{nothing, nil},
		{one, []pair[int]{{pre(0, 0), 1}}},
		{two, []pair[int]{{pre(0, 0), 1}, {pre(0x80000000, 1), 2}}},
		{has, []pair[int]{{pre(0, 0), 1}, {pre(0x80000000, 1), 2}}},
		{x.All(), []pair[int]{{pre(0x80000000, 1), 2}}},
		{x.Covers(0x80000000), []pair[int]{{pre(0x80000000, 1), 2}}},
		{x.Covers(0), nil},
	} {
		if got := gone(y.s); !slices.Equal(got, y.want) {
			t.Errorf("%d: %v", i, got)
		}
	}
}

func TestLenAndNodes(t *testing.T) {
	x := New[int](10)
	for i, y := range []struct {
		p          api.Prefix
		in         bool
		len, nodes int
	}{
		{pre(0x0a010000, 16), true, 1, 1},
		{pre(0x0a010000, 16), true, 1, 1},
		{pre(0x0a020000, 16), true, 2, 3},
		{pre(0x0a000000, 8), true, 3, 4},
		{pre(0, 0), true, 4, 5},
		{pre(0xffffffff, 32), true, 5, 6},
		{pre(0x0a000000, 14), true, 6, 6},
		{pre(0xfffffffe, 32), true, 7, 8},
		{pre(0x0a000000, 14), false, 6, 8},
		{pre(0x0a020000, 16), false, 5, 6},
		{pre(0, 0), false, 4, 6},
		{pre(0xffffffff, 32), false, 3, 4},
		{pre(0xffffffff, 32), false, 3, 4},
		{pre(0xfffffffe, 32), false, 2, 2},
		{pre(0x0a000000, 8), false, 1, 1},
		{pre(0x0a010000, 16), false, 0, 0},
	} {
		if y.in {
			x.Insert(y.p, i)
		} else {
			x.Delete(y.p)
		}
		if x.Len() != y.len || x.Nodes() != y.nodes {
			t.Errorf("%d: %d, %d", i, x.Len(), x.Nodes())
		}
	}
}

func TestMissing(t *testing.T) {
	for i, x := range missing() {
		for _, p := range slices.Concat(some(), wrong()) {
			if e := x.Insert(p, 1); e != api.ErrNil {
				t.Fatalf("%d: Insert(%v): %d", i, p, e)
			}
			if e := x.Delete(p); e != api.ErrNil {
				t.Fatalf("%d: Delete(%v): %d", i, p, e)
			}
			if v, has := x.Get(p); v != 0 || has {
				t.Fatalf("%d: Get(%v): %d, %t", i, p, v, has)
			}
			if q, v, is := x.Match(p.Addr); q != (api.Prefix{}) || v != 0 || is {
				t.Fatalf("%d: Match(%v): %v, %d, %t", i, p, q, v, is)
			}
			if l := gone(x.Covers(p.Addr)); l != nil {
				t.Fatalf("%d: Covers(%v): %v", i, p, l)
			}
		}
		for range 2 {
			if l := gone(x.All()); l != nil {
				t.Errorf("%d: %v", i, l)
			}
		}
		x.All()(nil)
		x.Covers(0)(nil)
		if x.Len() != 0 || x.Nodes() != 0 || x.Copy() != nil {
			t.Error(i, x.Len(), x.Nodes(), x.Copy())
		}
	}
}

func TestCopy(t *testing.T) {
	for _, limit := range []int{-1, 0, 1, 2, 15, 16, 100} {
		x, m := New[int](limit), &model{limit: limit}
		for i, p := range some() {
			insert(t, x, m, p, i)
		}
		c, n := x.Copy(), m.copied()
		if c == nil || c == x {
			t.Fatal(limit)
		}
		held(t, c, n, some()...)
		// It has the same limit, and all that the first one had: but each goes on apart.
		for i, p := range []api.Prefix{pre(0x0a010204, 32), pre(0x0a000000, 7), pre(0, 0), pre(0x0a010203, 32)} {
			insert(t, c, n, p, 500+i)
			held(t, c, n, some()...)
			held(t, x, m, some()...)
			remove(t, x, m, p)
			held(t, c, n, some()...)
			held(t, x, m, some()...)
			remove(t, c, n, some()[9])
			insert(t, x, m, some()[9], 600+i)
			held(t, c, n, some()...)
			held(t, x, m, some()...)
		}
		for _, p := range prefixesOf(n) {
			remove(t, c, n, p)
		}
		held(t, c, n, some()...)
		held(t, x, m, some()...)
	}
}

func TestCopyOfAFullOne(t *testing.T) {
	x, m := of(t, 2, pre(0, 1), pre(0x80000000, 1))
	c, n := x.Copy(), m.copied()
	insert(t, c, n, pre(0, 0), 3)
	remove(t, c, n, pre(0, 1))
	insert(t, c, n, pre(0, 0), 3)
	// That the copy has room, and uses it, gives the first one none.
	if e := x.Insert(pre(0, 0), 4); e != api.ErrFull {
		t.Error(e)
	}
	held(t, x, m, pre(0, 0))
	held(t, c, n, pre(0, 1))
}

func TestCopyOfACopy(t *testing.T) {
	x, m := of(t, 20, some()...)
	type both struct {
		x *Trie[int]
		m *model
	}
	l := []both{{x, m}}
	for i, p := range some() {
		last := l[len(l)-1]
		y, n := last.x.Copy(), last.m.copied()
		remove(t, y, n, p)
		insert(t, y, n, cut(0x0a010203, 2*i), 70+i)
		l = append(l, both{y, n})
		for _, z := range l {
			held(t, z.x, z.m, some()...)
		}
	}
}

// P9.4

// typed holds a trie of one type of values to what each one promises.
func typed[V comparable](t *testing.T, one, two V) {
	t.Helper()
	var zero V
	x := New[V](2)
	p, q := pre(0x0a000000, 8), pre(0x0a010000, 16)
	if x.Insert(p, one) != api.OK || x.Insert(q, two) != api.OK || x.Insert(pre(0, 0), one) != api.ErrFull {
		t.Error("not inserted")
	}
	if v, has := x.Get(p); v != one || !has {
		t.Error(v, has)
	}
	if r, v, is := x.Match(0x0a010203); r != q || v != two || !is {
		t.Error(r, v, is)
	}
	want := []pair[V]{{p, one}, {q, two}}
	if !slices.Equal(gone(x.All()), want) || !slices.Equal(gone(x.Covers(q.Addr)), want) {
		t.Error(gone(x.All()), gone(x.Covers(q.Addr)))
	}
	c := x.Copy()
	if x.Delete(p) != api.OK || x.Insert(q, one) != api.OK || x.Delete(p) != api.ErrNone {
		t.Error("not deleted")
	}
	if v, has := x.Get(p); v != zero || has {
		t.Error(v, has)
	}
	if r, v, is := x.Match(0x0a020203); r != (api.Prefix{}) || v != zero || is {
		t.Error(r, v, is)
	}
	if !slices.Equal(gone(x.All()), []pair[V]{{q, one}}) || !slices.Equal(gone(c.All()), want) {
		t.Error(gone(x.All()), gone(c.All()))
	}
	var none *Trie[V]
	for _, y := range []*Trie[V]{none, {}} {
		if v, has := y.Get(p); y.Insert(p, one) != api.ErrNil || v != zero || has || y.Copy() != nil || gone(y.All()) != nil {
			t.Error(v, has)
		}
	}
}

func TestValuesOfOtherTypes(t *testing.T) {
	typed(t, "one", "two")
	typed(t, "", "two")
	typed(t, true, false)
	typed(t, byte(200), 0)
	typed(t, 1.5, math.Inf(-1))
	typed(t, struct{}{}, struct{}{})
	typed(t, pre(1, 32), api.Prefix{})
	typed(t, [3]int{1, 2, 3}, [3]int{})
	typed(t, new(3), nil)
	typed(t, New[int](1), nil)
	typed[error](t, api.ErrFull, errors.New("another one"))
	typed[any](t, nil, "two")
	typed(t, api.Way{Kind: api.WayOut, Buckets: [api.Buckets]int{1, 2, 3}}, api.Way{Kind: api.WayOwn})
}

// TestValuesThatAreNotCompared: lists, maps, functions, and a number that is not itself.
func TestValuesThatAreNotCompared(t *testing.T) {
	x := New[[]int](2)
	l := []int{1, 2}
	for range 2 {
		if e := x.Insert(pre(0, 0), l); e != api.OK {
			t.Error(e)
		}
	}
	x.Insert(pre(0, 1), nil)
	if v, has := x.Get(pre(0, 0)); !slices.Equal(v, []int{1, 2}) || !has {
		t.Error(v, has)
	}
	if v, has := x.Get(pre(0, 1)); v != nil || !has {
		t.Error(v, has)
	}
	y := New[map[string]int](1)
	y.Insert(pre(0, 0), map[string]int{"one": 1})
	if _, v, is := y.Match(7); v["one"] != 1 || !is {
		t.Error(v, is)
	}
	z := New[func() int](1)
	z.Insert(pre(0, 0), func() int { return 1 })
	z.Insert(pre(0, 0), func() int { return 2 })
	for _, f := range z.All() {
		if f() != 2 {
			t.Error(f())
		}
	}
	n := New[float64](1)
	n.Insert(pre(0, 0), math.NaN())
	n.Insert(pre(0, 0), math.NaN())
	if v, has := n.Get(pre(0, 0)); v == v || !has || n.Len() != 1 {
		t.Error(v, has, n.Len())
	}
}

func TestZeroValuesAreValues(t *testing.T) {
	x, m := of(t, 4, some()[:4]...)
	for _, p := range some()[:4] {
		insert(t, x, m, p, 0)
		if v, has := x.Get(p); v != 0 || !has {
			t.Error(p, v, has)
		}
	}
	held(t, x, m)
	if e := x.Insert(pre(0, 2), 1); e != api.ErrFull {
		t.Error(e)
	}
}

func TestExamples(t *testing.T) {
	x := New[int](3)
	ten, one, two := pre(0x0a000000, 8), pre(0x0a010000, 16), pre(0x0a020000, 16)
	if a, b := x.Insert(ten, 1), x.Insert(one, 2); a != api.OK || b != api.OK {
		t.Error(a, b)
	}
	if p, v, is := x.Match(0x0a010203); p != one || v != 2 || !is {
		t.Error(p, v, is)
	}
	if p, v, is := x.Match(0x0a020203); p != ten || v != 1 || !is {
		t.Error(p, v, is)
	}
	if _, _, is := x.Match(0x0b000000); is {
		t.Error("matched")
	}
	if e := x.Insert(two, 3); e != api.OK || x.Nodes() != 4 {
		t.Error(e, x.Nodes())
	}
	if a, b := x.Insert(pre(0, 0), 4), x.Delete(ten); a != api.ErrFull || b != api.OK || x.Nodes() != 3 {
		t.Error(a, b, x.Nodes())
	}
}

// TestOthersStay: of what is inserted and deleted, no other prefix is touched.
func TestOthersStay(t *testing.T) {
	x, m := of(t, 60, some()...)
	kept := m.all()
	for _, a := range []api.Addr{0, 1, 0x0a010203, 0x0a0102ff, 0x80000001, 0xffffffff} {
		for n := range 33 {
			p := cut(a, n)
			if m.at(p) >= 0 {
				continue
			}
			if e := x.Insert(p, 1000); e != api.OK {
				t.Fatal(p, e)
			}
			for _, y := range kept {
				if v, has := x.Get(y.prefix); v != y.value || !has {
					t.Fatal(p, y, v, has)
				}
			}
			if v, has := x.Get(p); v != 1000 || !has {
				t.Fatal(p, v, has)
			}
			if e := x.Delete(p); e != api.OK {
				t.Fatal(p, e)
			}
			held(t, x, m, p)
		}
	}
}

// chance tells numbers that look like no others: the same ones for each seed.
type chance uint32

func (c *chance) below(n int) int {
	*c = *c*1664525 + 1013904223
	return int(*c>>8) % n
}

// prefix is one of a few that have much in common, or of many, or one that may not be.
func (c *chance) prefix() api.Prefix {
	bases := []api.Addr{0, 0xffffffff, 0x0a010203, 0x0a010280}
	a := bases[c.below(len(bases))]
	switch c.below(8) {
	case 0:
		return pre(a, c.below(40)-4)
	case 1:
		a = api.Addr(c.below(1<<24))<<8 | api.Addr(c.below(256))
	case 2, 3, 4:
		a = turned(a, c.below(32))
	}
	return cut(a, c.below(33))
}

// step does one thing by chance to one of several tries, and fails if it is not done to that one alone.
func (c *chance) step(t *testing.T, xs []*Trie[int], ms []*model) {
	t.Helper()
	i, p := c.below(len(xs)), c.prefix()
	x, m := xs[i], ms[i]
	switch what := c.below(10); {
	case what < 5:
		insert(t, x, m, p, c.below(100))
	case what < 7:
		remove(t, x, m, p)
	case what < 9 && len(m.list) > 0:
		remove(t, x, m, m.list[c.below(len(m.list))].prefix)
	case what == 9:
		to := c.below(len(xs))
		xs[to], ms[to] = x.Copy(), m.copied()
	}
	got, has := xs[i].Get(p)
	if want, is := ms[i].get(p); got != want || has != is {
		t.Fatalf("Get(%v): %d, %t, not %d, %t", p, got, has, want, is)
	}
	if n := xs[i].Len(); xs[i].Nodes() > max(2*n-1, 0) {
		t.Fatalf("%d nodes of %d", xs[i].Nodes(), n)
	}
	covers(t, xs[i], ms[i], p.Addr)
}

func TestWhateverIsDone(t *testing.T) {
	for seed := range 60 {
		c := chance(seed)
		xs, ms := make([]*Trie[int], 3), make([]*model, 3)
		for i := range xs {
			limit := c.below(30)
			xs[i], ms[i] = New[int](limit), &model{limit: limit}
		}
		// What goes over each is as it was, whatever is done to it later.
		kept := map[int][]pair[int]{}
		over := map[int]iter.Seq2[api.Prefix, int]{}
		for n := range 200 {
			c.step(t, xs, ms)
			if n%10 == 0 {
				i := c.below(len(xs))
				kept[n], over[n] = ms[i].all(), xs[i].All()
				held(t, xs[i], ms[i])
			}
		}
		for n, s := range over {
			if got := gone(s); !slices.Equal(got, kept[n]) {
				t.Fatalf("All of step %d: %v, not %v", n, got, kept[n])
			}
		}
		for i := range xs {
			held(t, xs[i], ms[i])
		}
	}
}
