package fib

import (
	"cmp"
	"math"
	"slices"
	"strconv"
	"strings"
	"testing"

	"guidepost/api"
	"guidepost/split"
)

// row is an entry of the model: a list without order, in which bits are compared as texts of '0' and '1'.
type row struct {
	prefix api.Prefix
	way    api.Way
	stem   string
}

// digits are the 32 bits of an address.
func digits(a api.Addr) string { return strconv.FormatUint(1<<32|uint64(a), 2)[1:] }

func mayPre(p api.Prefix) bool {
	return p.Len >= 0 && p.Len <= 32 && !strings.Contains(digits(p.Addr)[p.Len:], "1")
}

// mayWays looks for each fault of ways by itself.
func mayWays(l []api.Next) bool {
	faults := 0
	for i, n := range l {
		if n.Port < 0 || n.Port > 7 || n.Distance < 0 || n.Distance > 254 {
			faults++
		}
		for _, m := range l[i+1:] {
			if n.Port >= m.Port {
				faults++
			}
		}
	}
	return faults == 0 && len(l) != 0 && len(l) < 9
}

func mayBe(r api.Route) bool {
	return mayPre(r.Prefix) && (len(r.Next) == 0 || mayWays(r.Next))
}

// wayOf is the entry of a route that may be.
func wayOf(r api.Route) api.Way {
	if r.Own {
		return api.Way{Kind: api.WayOwn}
	}
	if r.Taken && len(r.Next) > 0 {
		b, _ := split.Buckets(r.Next...)
		return api.Way{Kind: api.WayOut, Buckets: b}
	}
	return api.Way{Kind: api.WayReject}
}

// rows are those of routes that may be, of one prefix each.
func rows(l []api.Route) []row {
	m := make([]row, len(l))
	for i, r := range l {
		m[i] = row{r.Prefix, wayOf(r), digits(r.Prefix.Addr)[:r.Prefix.Len]}
	}
	slices.SortFunc(m, func(x, y row) int {
		return cmp.Or(cmp.Compare(x.prefix.Addr, y.prefix.Addr), cmp.Compare(x.prefix.Len, y.prefix.Len))
	})
	return m
}

// longest is where the longest prefix for an address stands; -1: there is none.
func longest(m []row, a api.Addr) int {
	at, bits := -1, digits(a)
	for i, x := range m {
		if strings.HasPrefix(bits, x.stem) && (at < 0 || len(x.stem) > len(m[at].stem)) {
			at = i
		}
	}
	return at
}

// portsOf are those that a way's buckets name.
func portsOf(w api.Way) []int {
	var l []int
	for port := range api.MaxPorts {
		if w.Kind == api.WayOut && slices.Contains(w.Buckets[:], port) {
			l = append(l, port)
		}
	}
	return l
}

// hashes are the edges: the ends of 256 buckets, of their halves, and of 32 bits.
func hashes() []uint32 {
	return []uint32{0, 1, 127, 128, 254, 255, 256, 257, 511, 512, 65535, 65536, math.MaxInt32, math.MaxInt32 + 1, math.MaxUint32 - 1, math.MaxUint32}
}

// probes are addresses at both ends of prefixes and just beside them, and those at the ends of all.
func probes(l []api.Prefix) []api.Addr {
	a := []api.Addr{0, 1, 0x7fffffff, 0x80000000, 0xfffffffe, 0xffffffff}
	for _, p := range l {
		last := p.Addr | api.Addr(uint64(1)<<(32-p.Len)-1)
		a = append(a, p.Addr, p.Addr-1, last, last+1)
	}
	slices.Sort(a)
	return slices.Compact(a)
}

func prefixes(l []api.Route) []api.Prefix {
	var ps []api.Prefix
	for _, r := range l {
		ps = append(ps, r.Prefix)
	}
	return ps
}

// entry is what All tells.
type entry struct {
	prefix api.Prefix
	way    api.Way
}

func gone(f *Fib) []entry {
	var l []entry
	for p, w := range f.All() {
		l = append(l, entry{p, w})
	}
	return l
}

// held fails if anything that a table tells is another thing than what its routes ask for.
func held(t *testing.T, f *Fib, l []api.Route, more ...api.Addr) {
	t.Helper()
	m := rows(l)
	var want []entry
	for _, x := range m {
		want = append(want, entry{x.prefix, x.way})
	}
	if got := gone(f); !slices.Equal(got, want) || f.Len() != len(l) {
		t.Fatalf("%v: Len %d, All %v", l, f.Len(), got)
	}
	for _, a := range append(probes(prefixes(l)), more...) {
		looked(t, f, m, a)
	}
}

// looked fails if what a table tells of an address is another thing than the model's.
func looked(t *testing.T, f *Fib, m []row, a api.Addr) {
	t.Helper()
	var want row
	i := longest(m, a)
	if i >= 0 {
		want = m[i]
	}
	p, w, is := f.Lookup(a)
	if p != want.prefix || w != want.way || is != (i >= 0) {
		t.Fatalf("Lookup(%x): %v, %v, %t, not %v", uint32(a), p, w, is, want)
	}
	for _, hash := range hashes() {
		k, port := f.Pick(a, hash)
		if k != want.way.Kind || port != want.way.Buckets[hash&255] {
			t.Fatalf("Pick(%x, %d): %d, %d, not %v", uint32(a), hash, k, port, want)
		}
	}
	if got, want := f.Ports(a), portsOf(want.way); !slices.Equal(got, want) {
		t.Fatalf("Ports(%x): %v, not %v", uint32(a), got, want)
	}
}

// made is a table of routes that may be.
func made(t *testing.T, l ...api.Route) *Fib {
	t.Helper()
	f, e := Make(l...)
	if f == nil || e != api.OK {
		t.Fatalf("Make(%v): %v, %d", l, f, e)
	}
	return f
}

// refused fails unless routes are refused, and so.
func refused(t *testing.T, want api.Errno, l ...api.Route) {
	t.Helper()
	if f, e := Make(l...); f != nil || e != want {
		t.Fatalf("Make of %d: %v, %d, not %d", len(l), f, e, want)
	}
}

// asked holds a route against the model, whether it may be or not.
func asked(t *testing.T, r api.Route) {
	t.Helper()
	may := mayBe(r)
	if May(r) != may {
		t.Fatalf("May(%v): %t", r, !may)
	}
	w, e := Entry(r)
	if !may {
		if w != (api.Way{}) || e != api.ErrArg {
			t.Fatalf("Entry(%v): %v, %d", r, w, e)
		}
		refused(t, api.ErrArg, r)
		return
	}
	if w != wayOf(r) || e != api.OK {
		t.Fatalf("Entry(%v): %v, %d", r, w, e)
	}
	f := made(t, r)
	if q, x, is := f.Lookup(r.Prefix.Addr); q != r.Prefix || x != w || !is || f.Len() != 1 {
		t.Fatalf("%v: %v, %v, %t", r, q, x, is)
	}
}

// pre is a prefix.
func pre(a api.Addr, n int) api.Prefix { return api.Prefix{Addr: a, Len: n} }

// ways are of Ports 0, 1, 2 and on, at these Distances.
func ways(distances ...int) []api.Next {
	var l []api.Next
	for i, d := range distances {
		l = append(l, api.Next{Port: i, Distance: d})
	}
	return l
}

// at are ways of these Ports, at one Distance.
func at(distance int, ports ...int) []api.Next {
	var l []api.Next
	for _, port := range ports {
		l = append(l, api.Next{Port: port, Distance: distance})
	}
	return l
}

func own(p api.Prefix, next ...api.Next) api.Route {
	return api.Route{Prefix: p, Own: true, Taken: true, Next: next}
}

// left is a route that is not taken.
func left(p api.Prefix, next ...api.Next) api.Route {
	return api.Route{Prefix: p, Distance: api.Infinite, Next: next}
}

func taken(p api.Prefix, next ...api.Next) api.Route {
	return api.Route{Prefix: p, Taken: true, Distance: 9, Next: next}
}
