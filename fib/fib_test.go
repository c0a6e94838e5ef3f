package fib

import (
	"iter"
	"math"
	"math/rand"
	"slices"
	"testing"

	"guidepost/api"
	"guidepost/lfi"
	"guidepost/split"
)

// numbered are so many routes of all kinds, each of another prefix, in an order that is not theirs.
func numbered(n int) []api.Route {
	var l []api.Route
	for i := range n {
		p := pre(api.Addr(i*7%n+1)<<16, 16+i%17)
		l = append(l, kinds(p)[i%9])
	}
	return l
}

// kinds are routes of one prefix, of each kind, and with each reason for it.
func kinds(p api.Prefix) []api.Route {
	return []api.Route{
		own(p), own(p, at(3, 2)...), {Prefix: p, Own: true}, {Prefix: p, Own: true, Next: at(0, 0, 7)},
		left(p), left(p, at(4, 1, 5)...), taken(p),
		taken(p, at(3, 2)...), taken(p, ways(0, 0, 1)...),
	}
}

// wrongPrefixes may not be.
func wrongPrefixes() []api.Prefix {
	l := []api.Prefix{pre(1, 0), pre(0x80000000, 0), pre(0x40000000, 1), pre(0x0a000001, 8), pre(0x0a800000, 8), pre(0x0a010100, 16), pre(1, 31), pre(3, 31), pre(0xffffffff, 31)}
	for _, n := range []int{math.MinInt, -1 << 32, -33, -32, -2, -1, 33, 34, 40, 64, 256, 1 << 32, 1<<32 + 8, math.MaxInt} {
		l = append(l, pre(0, n), pre(0x0a000000, n), pre(0xffffffff, n))
	}
	return l
}

func goodPrefixes() []api.Prefix {
	return []api.Prefix{pre(0, 0), pre(0, 1), pre(0x80000000, 1), pre(0x0a000000, 8), pre(0x0a010000, 16), pre(0x0a010202, 31), pre(0, 32), pre(1, 32), pre(0x80000000, 32), pre(0xfffffffe, 31), pre(0xffffffff, 32)}
}

// wrongNexts are no ways: a fault of each kind, of one way, and at each end and amid several.
func wrongNexts() [][]api.Next {
	l := [][]api.Next{
		at(3, -1), at(3, 8), at(3, 9), at(3, math.MinInt), at(3, math.MaxInt), at(3, 256), ways(-1), ways(255), ways(256), ways(math.MinInt), ways(math.MaxInt),
		at(3, 0, 0), at(3, 1, 0), at(3, 7, 7), at(3, 7, 8), at(3, -1, 0), at(3, 0, 2, 1), at(3, 0, 1, 1), at(3, 0, 0, 1),
		ways(0, 255), ways(255, 0), ways(0, -1), ways(-1, 0), ways(0, 0, 0, 0, 0, 0, 0, 255), ways(255, 0, 0, 0, 0, 0, 0, 0), ways(0, 0, 0, -1, 0, 0, 0, 0),
		ways(0, 0, 0, 0, 0, 0, 0, 0, 0), at(0, -1, 0, 1, 2, 3, 4, 5, 6, 7), at(3, 0, 1, 2, 3, 4, 5, 6, 6), make([]api.Next, 9), make([]api.Next, 1000),
	}
	return l
}

func goodNexts() [][]api.Next {
	return [][]api.Next{
		nil, {}, make([]api.Next, 0, 9), ways(0), ways(1), ways(253), ways(254), at(0, 7), at(254, 7), ways(0, 0), at(9, 0, 7), ways(0, 254), ways(254, 0), ways(0, 0, 254, 0, 0), ways(0, 0, 1),
		ways(0, 0, 0, 0, 0, 0, 0, 0), ways(254, 254, 254, 254, 254, 254, 254, 254), ways(254, 0, 0, 0, 0, 0, 0, 0), ways(1, 2, 3, 4, 5, 6, 7, 8),
	}
}

// P14.1

// TestEachRoute: each prefix with each Next, of each kind, at each Distance of the route, which makes no difference.
func TestEachRoute(t *testing.T) {
	for _, p := range slices.Concat(goodPrefixes(), wrongPrefixes()) {
		for _, next := range slices.Concat(goodNexts(), wrongNexts()) {
			for _, distance := range []int{math.MinInt, -1, 0, 7, 254, 255, 256, math.MaxInt} {
				for i := range 4 {
					asked(t, api.Route{Prefix: p, Own: i&1 == 1, Taken: i&2 == 2, Distance: distance, Next: next})
				}
			}
		}
	}
}

func TestMay(t *testing.T) {
	p := pre(0x0a000000, 8)
	for i, x := range []struct {
		r    api.Route
		want bool
	}{
		{api.Route{}, true}, {api.Route{Own: true}, true}, {api.Route{Taken: true}, true},
		{own(p), true}, {left(p), true}, {taken(p), true}, {own(p, ways(0)...), true}, {left(p, ways(0)...), true}, {taken(p, ways(0)...), true},
		{own(p, ways(255)...), false}, {left(p, ways(255)...), false}, {taken(p, ways(255)...), false},
		{own(p, at(0, 8)...), false}, {left(p, at(0, 8)...), false}, {taken(p, at(0, 8)...), false},
		{own(p, at(0, -1)...), false}, {left(p, at(0, -1)...), false}, {taken(p, at(0, -1)...), false},
		{own(pre(1, 8)), false}, {left(pre(1, 8)), false}, {taken(pre(1, 8)), false}, {taken(pre(1, 8), ways(0)...), false}, {taken(pre(1, 8), ways(255)...), false},
		{own(pre(0, -1)), false}, {own(pre(0, 0)), true}, {own(pre(0, 32)), true}, {own(pre(0, 33)), false}, {own(pre(1, 32)), true}, {own(pre(1, 33)), false}, {own(pre(1, 31)), false},
		{taken(p, ways(0, 0, 0, 0, 0, 0, 0, 0)...), true}, {taken(p, ways(0, 0, 0, 0, 0, 0, 0, 0, 0)...), false},
	} {
		if May(x.r) != x.want || mayBe(x.r) != x.want {
			t.Errorf("%d: May(%v) is not %t", i, x.r, x.want)
		}
	}
}

// TestMayOfEachBit: a bit anywhere behind each Len.
func TestMayOfEachBit(t *testing.T) {
	for n := range 33 {
		for bit := range 32 {
			asked(t, own(pre(1<<(31-bit), n)))
			if got, want := May(taken(pre(1<<(31-bit), n), ways(3)...)), bit < n; got != want {
				t.Errorf("Len %d, bit %d: %t", n, bit, got)
			}
		}
	}
}

func TestEntry(t *testing.T) {
	p := pre(0x0a000000, 8)
	shares := func(l ...int) (b [256]int) {
		at := 0
		for port, n := range l {
			for range n {
				b[at] = port
				at++
			}
		}
		return b
	}
	none := shares()
	for i, x := range []struct {
		r       api.Route
		kind    int
		buckets [256]int
	}{
		{api.Route{}, 2, none}, {api.Route{Own: true}, 1, none}, {api.Route{Taken: true}, 2, none},
		// Own, whether it is taken or not, with Next and without.
		{own(p), 1, none}, {own(p, at(0, 7)...), 1, none}, {own(p, ways(0, 0, 1)...), 1, none},
		{api.Route{Prefix: p, Own: true}, 1, none}, {api.Route{Prefix: p, Own: true, Next: at(0, 7)}, 1, none},
		// Not taken.
		{left(p), 2, none}, {left(p, at(0, 7)...), 2, none}, {left(p, ways(0, 0, 1)...), 2, none}, {left(p, []api.Next{}...), 2, none},
		// Taken, with Next and without.
		{taken(p), 2, none}, {api.Route{Prefix: p, Taken: true, Next: []api.Next{}}, 2, none}, {api.Route{Prefix: p, Taken: true, Next: make([]api.Next, 0, 5)}, 2, none},
		{taken(p, at(0, 0)...), 3, none}, {taken(p, at(254, 0)...), 3, none}, {taken(p, at(3, 2)...), 3, shares(0, 0, 256)}, {taken(p, at(0, 7)...), 3, shares(0, 0, 0, 0, 0, 0, 0, 256)},
		{taken(p, at(4, 1, 5)...), 3, shares(0, 128, 0, 0, 0, 128)}, {taken(p, ways(0, 0, 1)...), 3, shares(103, 102, 51)}, {taken(p, ways(0, 0, 254, 0, 0)...), 3, shares(64, 64, 0, 64, 64)},
		{taken(p, ways(0, 0, 0, 0, 0, 0, 0, 0)...), 3, shares(32, 32, 32, 32, 32, 32, 32, 32)}, {taken(p, ways(254, 0, 0, 0, 0, 0, 0, 0)...), 3, shares(0, 37, 37, 37, 37, 36, 36, 36)},
	} {
		if w, e := Entry(x.r); int(w.Kind) != x.kind || w.Buckets != x.buckets || e != api.OK {
			t.Errorf("%d: Entry(%v): %v, %d", i, x.r, w, e)
		}
		asked(t, x.r)
	}
}

// TestMakeOfNone: nil and empty lists are one, and make a table.
func TestMakeOfNone(t *testing.T) {
	for _, l := range [][]api.Route{nil, {}, make([]api.Route, 0, 5)} {
		f := made(t, l...)
		held(t, f, nil, 0x0a000000)
		if k, port := f.Pick(0, 0); k != api.WayNone || port != 0 {
			t.Error(k, port)
		}
	}
}

func TestMakeOfOne(t *testing.T) {
	for _, p := range goodPrefixes() {
		for _, r := range kinds(p) {
			held(t, made(t, r), []api.Route{r}, 0x0a000000)
		}
	}
	held(t, made(t, api.Route{}), []api.Route{{}})
}

func TestMakeOfMany(t *testing.T) {
	for _, n := range []int{2, 3, 17, 100, 1000, 1023, 1024} {
		l := numbered(n)
		held(t, made(t, l...), l)
	}
}

// faulty are routes that may not be.
func faulty() []api.Route {
	p := pre(0x0a000000, 8)
	return []api.Route{own(pre(1, 8)), left(pre(0, -1)), taken(pre(0, 33), ways(0)...), taken(p, ways(255)...), taken(p, at(0, 8)...), own(p, at(0, -1)...), left(p, ways(-1)...), left(p, at(0, 1, 1)...), own(p, make([]api.Next, 9)...)}
}

func TestMakeOfTooMany(t *testing.T) {
	for _, n := range []int{1025, 1026, 2048, 5000} {
		l := numbered(n)
		refused(t, api.ErrFull, l...)
		refused(t, api.ErrFull, make([]api.Route, n)...)
		// Too many comes first, whatever else is wrong.
		for _, r := range faulty() {
			for _, i := range []int{0, 1, n / 2, 1023, 1024, n - 1} {
				bad := slices.Clone(l)
				bad[i] = r
				refused(t, api.ErrFull, bad...)
			}
		}
		for _, two := range [][2]int{{0, 1}, {0, n - 1}, {1023, 1024}, {n - 2, n - 1}} {
			bad := slices.Clone(l)
			bad[two[1]].Prefix = bad[two[0]].Prefix
			refused(t, api.ErrFull, bad...)
		}
	}
}

func TestMakeOfOneThatMayNotBe(t *testing.T) {
	for _, n := range []int{1, 2, 3, 8, 1024} {
		l := numbered(n)
		for _, r := range faulty() {
			for _, i := range []int{0, n / 3, n / 2, n - 1} {
				bad := slices.Clone(l)
				bad[i] = r
				refused(t, api.ErrArg, bad...)
			}
		}
	}
}

// TestMakeOfOnePrefixTwice: two of one prefix at each two places, whatever else they say.
func TestMakeOfOnePrefixTwice(t *testing.T) {
	p := pre(0x0a010000, 16)
	l := []api.Route{own(pre(0, 0)), taken(pre(0x0a000000, 8), at(3, 2)...), left(pre(0x0a020000, 16)), own(pre(0x0a010000, 17)), taken(pre(0xffffffff, 32)), taken(pre(0x0a000000, 15), at(4, 1)...)}
	for i := range len(l) + 1 {
		for j := range len(l) + 2 {
			for _, x := range kinds(p) {
				for _, y := range kinds(p) {
					one := slices.Insert(slices.Clone(l), i, x)
					made(t, one...)
					refused(t, api.ErrArg, slices.Insert(one, j, y)...)
				}
			}
		}
	}
}

func TestMakeOfOnePrefixTwiceAmongMany(t *testing.T) {
	l := numbered(api.MaxRoutes)
	for _, two := range [][2]int{{0, 1}, {0, 1023}, {511, 512}, {1022, 1023}, {100, 900}} {
		for _, from := range []int{0, 1} {
			bad := slices.Clone(l)
			bad[two[from]].Prefix = bad[two[1-from]].Prefix
			refused(t, api.ErrArg, bad...)
		}
	}
	refused(t, api.ErrArg, make([]api.Route, 2)...)
	refused(t, api.ErrArg, make([]api.Route, api.MaxRoutes)...)
	// Three of one prefix, among few.
	l[0], l[5] = l[6], l[6]
	refused(t, api.ErrArg, l[:7]...)
	made(t, l[6:]...)
}

// TestMakeOfPrefixesOfOneAddr: one Addr with another Len, one Len with another Addr are others.
func TestMakeOfPrefixesOfOneAddr(t *testing.T) {
	for _, a := range []api.Addr{0, 0x80000000} {
		var l []api.Route
		for n := range 33 {
			if n > 0 || a == 0 {
				l = append(l, kinds(pre(a, n))[n%9])
			}
		}
		held(t, made(t, l...), l)
		slices.Reverse(l)
		held(t, made(t, l...), l)
	}
	l := []api.Route{own(pre(0, 1)), taken(pre(0x80000000, 1), at(3, 2)...), left(pre(0xfffffffe, 32)), own(pre(0xffffffff, 32))}
	held(t, made(t, l...), l)
}

// orders are all orders of 0 to n less 1.
func orders(n int) [][]int {
	if n == 0 {
		return [][]int{nil}
	}
	var l [][]int
	for _, o := range orders(n - 1) {
		for i := range n {
			l = append(l, slices.Insert(slices.Clone(o), i, n-1))
		}
	}
	return l
}

func TestMakeInEachOrder(t *testing.T) {
	l := []api.Route{own(pre(0, 0)), taken(pre(0x0a000000, 8), at(4, 1, 5)...), left(pre(0x0a010000, 16), ways(0)...), taken(pre(0x0a020000, 16)), taken(pre(0x0a020304, 32), ways(0, 0, 1)...), own(pre(0xffffffff, 32))}
	first := made(t, l...)
	for _, o := range orders(len(l)) {
		var m []api.Route
		for _, i := range o {
			m = append(m, l[i])
		}
		f := made(t, m...)
		held(t, f, l)
		if !Same(first, f) || !Same(f, first) {
			t.Fatal(o)
		}
	}
}

func TestMakeOfManyInAnyOrder(t *testing.T) {
	r := rand.New(rand.NewSource(141))
	l := numbered(api.MaxRoutes)
	first := made(t, l...)
	for range 20 {
		m := slices.Clone(l)
		r.Shuffle(len(m), func(i, j int) { m[i], m[j] = m[j], m[i] })
		if f := made(t, m...); !Same(first, f) || !slices.Equal(gone(f), gone(first)) {
			t.Fatal("another table by another order")
		}
	}
}

// P14.2

// world is a prefix, two that part right below it, and two right below the first of these.
func world(a api.Addr, one, two, three int) []api.Prefix {
	cut := func(a api.Addr, n int) api.Prefix { return pre(api.Addr(uint64(a)>>(32-n)<<(32-n)), n) }
	turned := func(a api.Addr, bit int) api.Addr { return a ^ 1<<(31-bit) }
	return []api.Prefix{cut(a, one), cut(a, two), cut(turned(a, one), two), cut(a, three), cut(turned(a, two), three)}
}

// TestEachSmallTable: each prefix of a small world there or not, and of each kind, above and below and beside each other.
func TestEachSmallTable(t *testing.T) {
	for _, ps := range [][]api.Prefix{world(0, 0, 1, 2), world(0xffffffff, 30, 31, 32), world(0x0a010203, 8, 16, 32)} {
		around := probes(ps)
		for code := range 6 * 6 * 6 * 6 * 6 {
			var l []api.Route
			for _, p := range ps {
				switch code % 6 {
				case 1:
					l = append(l, own(p, at(3, 6)...))
				case 2:
					l = append(l, left(p, at(3, 5)...))
				case 3:
					l = append(l, taken(p))
				case 4:
					l = append(l, taken(p, at(9, 4)...))
				case 5:
					l = append(l, taken(p, ways(0, 0, 254, 0, 0)...))
				}
				code /= 6
			}
			m, f := rows(l), made(t, l...)
			for _, a := range around {
				looked(t, f, m, a)
			}
		}
	}
}

func TestLookup(t *testing.T) {
	l := []api.Route{taken(pre(0x0a000000, 8), at(3, 2)...), left(pre(0x0a010000, 16)), own(pre(0x0a010200, 24)), taken(pre(0x0a010203, 32), at(3, 7)...)}
	f := made(t, l...)
	for _, x := range []struct {
		a     api.Addr
		i     int
		kind  api.WayKind
		port  int
		ports []int
	}{
		{0, -1, 0, 0, nil}, {0x09ffffff, -1, 0, 0, nil}, {0x0a000000, 0, 3, 2, []int{2}}, {0x0a00ffff, 0, 3, 2, []int{2}}, {0x0a010000, 1, 2, 0, nil}, {0x0a0101ff, 1, 2, 0, nil},
		{0x0a010200, 2, 1, 0, nil}, {0x0a010202, 2, 1, 0, nil}, {0x0a010203, 3, 3, 7, []int{7}}, {0x0a010204, 2, 1, 0, nil}, {0x0a0102ff, 2, 1, 0, nil}, {0x0a010300, 1, 2, 0, nil},
		{0x0a01ffff, 1, 2, 0, nil}, {0x0a020000, 0, 3, 2, []int{2}}, {0x0affffff, 0, 3, 2, []int{2}}, {0x0b000000, -1, 0, 0, nil}, {0xffffffff, -1, 0, 0, nil},
	} {
		p, w, is := f.Lookup(x.a)
		if is != (x.i >= 0) || w.Kind != x.kind || is && p != l[x.i].Prefix || !is && p != pre(0, 0) {
			t.Errorf("Lookup(%x): %v, %d, %t", uint32(x.a), p, w.Kind, is)
		}
		for _, hash := range hashes() {
			if k, port := f.Pick(x.a, hash); k != x.kind || port != x.port {
				t.Errorf("Pick(%x, %d): %d, %d", uint32(x.a), hash, k, port)
			}
		}
		if got := f.Ports(x.a); !slices.Equal(got, x.ports) {
			t.Errorf("Ports(%x): %v", uint32(x.a), got)
		}
	}
}

func TestLookupAtTheEnds(t *testing.T) {
	for _, l := range [][]api.Route{
		{taken(pre(0, 0), at(3, 2)...)}, {own(pre(0, 0))}, {left(pre(0, 0))}, {own(pre(0, 32))}, {own(pre(0xffffffff, 32))}, {taken(pre(0, 32), at(3, 1)...), taken(pre(0xffffffff, 32), at(3, 2)...)},
		{taken(pre(0, 0), at(3, 2)...), left(pre(0, 32)), own(pre(0xffffffff, 32))}, {taken(pre(0, 1), at(3, 2)...)}, {taken(pre(0x80000000, 1), at(3, 2)...)},
	} {
		held(t, made(t, l...), l, 0x0a000000)
	}
}

// TestPickOfEachBucket: the hash modulo 256, of each hash near each power of two.
func TestPickOfEachBucket(t *testing.T) {
	for _, next := range [][]api.Next{ways(0, 0, 1), ways(0, 0, 254, 0, 0), at(4, 1, 5), ways(1, 2, 3, 4, 5, 6, 7, 8), at(0, 7), at(0, 0)} {
		b, _ := split.Buckets(next...)
		f := made(t, taken(pre(0x0a000000, 8), next...))
		for from := uint64(0); from < 1<<32; from = from*2 + 256 {
			for i := range uint64(512) {
				hash := uint32(from + i)
				if k, port := f.Pick(0x0a0a0a0a, hash); k != api.WayOut || port != b[(from+i)%256] {
					t.Fatalf("%v: Pick(%d): %d, %d", next, hash, k, port)
				}
			}
		}
	}
	f := made(t, taken(pre(0, 0), ways(0, 0, 1)...))
	for hash, want := range map[uint32]int{0: 0, 102: 0, 103: 1, 204: 1, 205: 2, 255: 2, 256: 0, 358: 0, 359: 1, 461: 2, math.MaxUint32: 2, math.MaxUint32 - 51: 1, math.MaxUint32 - 50: 2, math.MaxUint32 - 255: 0, 1 << 31: 0} {
		if k, port := f.Pick(0, hash); k != api.WayOut || port != want {
			t.Errorf("Pick(%d): %d, %d, not %d", hash, k, port, want)
		}
	}
}

func TestPorts(t *testing.T) {
	p := pre(0x0a000000, 8)
	for _, x := range []struct {
		next []api.Next
		want []int
	}{
		{at(0, 0), []int{0}}, {at(0, 7), []int{7}}, {at(254, 3), []int{3}}, {at(3, 1, 5), []int{1, 5}}, {at(3, 0, 7), []int{0, 7}}, {at(9, 0, 1, 2, 3, 4, 5, 6, 7), []int{0, 1, 2, 3, 4, 5, 6, 7}},
		// Those whose share is 0 are none.
		{ways(254, 0, 0, 0, 0), []int{1, 2, 3, 4}}, {ways(0, 0, 254, 0, 0), []int{0, 1, 3, 4}}, {ways(0, 0, 0, 0, 254), []int{0, 1, 2, 3}}, {ways(254, 0, 0, 0, 0, 0, 0, 0), []int{1, 2, 3, 4, 5, 6, 7}}, {ways(0, 0, 0, 0, 254, 0, 0, 254), []int{0, 1, 2, 3, 5, 6}},
		// Of one bucket alone.
		{ways(254, 0), []int{0, 1}}, {ways(0, 254), []int{0, 1}}, {ways(254, 0, 0, 0), []int{0, 1, 2, 3}},
		{nil, nil},
	} {
		if got := made(t, taken(p, x.next...)).Ports(0x0a000001); !slices.Equal(got, x.want) {
			t.Errorf("%v: %v", x.next, got)
		}
		if got := made(t, left(p, x.next...)).Ports(0x0a000001); got != nil {
			t.Errorf("not taken, %v: %v", x.next, got)
		}
		if got := made(t, own(p, x.next...)).Ports(0x0a000001); got != nil {
			t.Errorf("own, %v: %v", x.next, got)
		}
		if got := made(t, taken(p, x.next...)).Ports(0x0b000000); got != nil {
			t.Errorf("elsewhere, %v: %v", x.next, got)
		}
	}
}

// chance are routes that may be, of prefixes that often lie within each other.
func chance(r *rand.Rand, most int) []api.Route {
	var l []api.Route
	seen := map[api.Prefix]int{}
	for range r.Intn(most + 1) {
		n := r.Intn(33)
		p := pre(api.Addr(uint64(r.Uint32()&r.Uint32()&r.Uint32())>>(32-n)<<(32-n)), n)
		if r.Intn(2) == 0 {
			p.Addr &= 0xe0000003 << (32 - n)
		}
		if seen[p]++; seen[p] > 1 {
			continue
		}
		ports := r.Perm(api.MaxPorts)[:r.Intn(api.MaxPorts+1)]
		slices.Sort(ports)
		x := api.Route{Prefix: p, Own: r.Intn(4) == 0, Taken: r.Intn(4) > 0, Distance: r.Intn(256), Next: at(0, ports...)}
		for i := range x.Next {
			x.Next[i].Distance = r.Intn([]int{2, 20, 255}[r.Intn(3)])
		}
		l = append(l, x)
	}
	return l
}

func TestManyTables(t *testing.T) {
	r := rand.New(rand.NewSource(142))
	for i := range 1500 {
		l := chance(r, 5+i%60)
		var more []api.Addr
		for range 20 {
			more = append(more, api.Addr(r.Uint32()&r.Uint32()))
		}
		held(t, made(t, l...), l, more...)
	}
}

// TestRoutesOfCores: what a core of layer 12 knows may be here.
func TestRoutesOfCores(t *testing.T) {
	r := rand.New(rand.NewSource(143))
	for range 60 {
		ps := []api.Prefix{pre(0, 0), pre(0x0a000000, 8), pre(0x0a010000, 16), pre(0x0a020000, 16), pre(0x0a010203, 32), pre(0x0b000000, 8)}
		c, e := lfi.New(r.Intn(5), ps[:r.Intn(3)]...)
		if e != api.OK {
			t.Fatal(e)
		}
		for range 150 {
			ev := api.CoreEvent{Kind: api.CoreKind(1 + r.Intn(5)), Port: r.Intn(api.MaxPorts)}
			switch ev.Kind {
			case api.CorePortUp, api.CoreCost:
				ev.Cost = 1 + r.Intn(50)
			case api.CoreHeard:
				ev.Prefix, ev.Distance = ps[r.Intn(len(ps))], []int{0, 1, 7, 200, 254, 255}[r.Intn(6)]
			case api.CoreAcked:
				ev.Prefix = ps[r.Intn(len(ps))]
			}
			c.Do(ev)
			l := c.Routes()
			held(t, made(t, l...), l)
		}
	}
}

// P14.3

func TestAllAndLen(t *testing.T) {
	l := []api.Route{own(pre(0xffffffff, 32)), left(pre(0x0a010000, 16)), taken(pre(0x0a010000, 17), at(3, 2)...), own(pre(0, 1)), taken(pre(0, 0), at(3, 7)...), taken(pre(0x80000000, 1)), own(pre(0x0a000000, 8)), own(pre(0, 32))}
	f := made(t, l...)
	var got []api.Prefix
	for p, w := range f.All() {
		got = append(got, p)
		i := slices.IndexFunc(l, func(r api.Route) bool { return r.Prefix == p })
		if w != wayOf(l[i]) {
			t.Error(p, w)
		}
	}
	want := []api.Prefix{pre(0, 0), pre(0, 1), pre(0, 32), pre(0x0a000000, 8), pre(0x0a010000, 16), pre(0x0a010000, 17), pre(0x80000000, 1), pre(0xffffffff, 32)}
	if !slices.Equal(got, want) || f.Len() != len(l) {
		t.Error(got, f.Len())
	}
	for n := range 40 {
		if f := made(t, numbered(n)...); f.Len() != n {
			t.Error(n, f.Len())
		}
	}
}

// TestAllLeft: at once, amid, at the end, and gone through again behind that, from the beginning.
func TestAllLeft(t *testing.T) {
	for _, n := range []int{0, 1, 2, 9, 100} {
		f := made(t, numbered(n)...)
		want := gone(f)
		all := f.All()
		for leave := range n + 1 {
			i := 0
			for p, w := range all {
				if (entry{p, w}) != want[i] {
					t.Fatal(n, leave, i, p)
				}
				if i++; i > leave {
					break
				}
			}
			if i != min(leave+1, n) {
				t.Fatal(n, leave, i)
			}
			// Nothing is handed on any more to what has said no.
			calls := 0
			all(func(api.Prefix, api.Way) bool {
				calls++
				return calls <= leave
			})
			if calls != min(leave+1, n) {
				t.Fatal(n, leave, calls)
			}
		}
		for range 3 {
			var got []entry
			for p, w := range all {
				got = append(got, entry{p, w})
			}
			if !slices.Equal(got, want) {
				t.Fatal(n, got)
			}
		}
	}
}

// TestAllTwoAtATime: one within the other, and two in turn, of one All and of two, of one table and of two.
func TestAllTwoAtATime(t *testing.T) {
	f, g := made(t, numbered(30)...), made(t, numbered(29)...)
	want := map[*Fib][]entry{f: gone(f), g: gone(g)}
	all := f.All()
	for i, x := range []struct {
		one, two     *Fib
		first, other iter.Seq2[api.Prefix, api.Way]
	}{{f, f, all, all}, {f, f, f.All(), f.All()}, {f, g, f.All(), g.All()}, {g, f, g.All(), all}} {
		var outer []entry
		for p, w := range x.first {
			outer = append(outer, entry{p, w})
			var inner []entry
			for q, v := range x.other {
				inner = append(inner, entry{q, v})
			}
			if !slices.Equal(inner, want[x.two]) {
				t.Fatal(i, p)
			}
		}
		if !slices.Equal(outer, want[x.one]) {
			t.Fatal(i)
		}
		inTurn(t, x.first, x.other, want[x.one], want[x.two])
	}
}

func inTurn(t *testing.T, one, two iter.Seq2[api.Prefix, api.Way], first, second []entry) {
	t.Helper()
	next, stop := iter.Pull2(one)
	defer stop()
	then, halt := iter.Pull2(two)
	defer halt()
	for i := range max(len(first), len(second)) + 1 {
		if p, w, ok := next(); ok != (i < len(first)) || ok && (entry{p, w}) != first[i] {
			t.Fatal(i, p, ok)
		}
		if p, w, ok := then(); ok != (i < len(second)) || ok && (entry{p, w}) != second[i] {
			t.Fatal(i, p, ok)
		}
	}
}

func TestAllWithNothingToHandTo(t *testing.T) {
	for _, f := range []*Fib{nil, {}, made(t), made(t, numbered(9)...)} {
		f.All()(nil)
	}
}

// different are tables each of which has other entries.
func different(t *testing.T) []*Fib {
	p, q := pre(0x0a000000, 8), pre(0x0a010000, 16)
	var l []*Fib
	for _, rs := range [][]api.Route{
		nil, {own(p)}, {left(p)}, {taken(p, at(3, 0)...)}, {taken(p, at(3, 2)...)}, {taken(p, ways(0, 0)...)}, {taken(p, ways(0, 0, 1)...)}, {taken(p, ways(0, 1, 0)...)},
		{own(q)}, {own(pre(0x0a000000, 9))}, {own(pre(0x0b000000, 8))}, {own(pre(0, 0))},
		{own(p), own(q)}, {own(p), left(q)}, {left(p), own(q)}, {left(p), left(q)}, {own(p), taken(q, at(3, 2)...)}, {own(p), taken(q, at(3, 3)...)}, {taken(p, at(3, 2)...), own(q)},
		{own(p), own(pre(0x0a010000, 17))}, {own(p), own(q), own(pre(0, 0))}, {own(p), own(q), left(pre(0, 0))}, {own(p), own(q), own(pre(0xffffffff, 32))},
	} {
		l = append(l, made(t, rs...))
	}
	// Two that differ in one bucket alone.
	for distance := range 254 {
		x, y := ways(distance, 254), ways(distance+1, 254)
		a, _ := split.Shares(x...)
		b, _ := split.Shares(y...)
		if a[0] == b[0]+1 {
			l = append(l, made(t, taken(p, x...), left(q)))
			l = append(l, made(t, taken(p, y...), left(q)))
			return l
		}
	}
	t.Fatal("no ways that differ in one bucket")
	return nil
}

func TestSameOfDifferent(t *testing.T) {
	l, again := different(t), different(t)
	for i, f := range l {
		for j, g := range again {
			if Same(f, g) != (i == j) || Same(g, f) != (i == j) || Same(f, l[j]) != (i == j) {
				t.Error(i, j, Same(f, g))
			}
		}
	}
}

// TestSameOfOneChange: tables of many entries that differ in one of them, wherever that stands.
func TestSameOfOneChange(t *testing.T) {
	for _, n := range []int{1, 2, 5, 40} {
		l := numbered(n)
		f := made(t, l...)
		for i := range n {
			var others [][]api.Route
			for _, r := range kinds(l[i].Prefix) {
				if wayOf(r) != wayOf(l[i]) {
					others = append(others, slices.Concat(l[:i], l[i+1:], []api.Route{r}))
				}
			}
			moved := l[i]
			moved.Prefix = pre(0xfffffff0, 28)
			others = append(others, slices.Concat(l[:i], l[i+1:]), slices.Concat(l[:i], []api.Route{moved}, l[i+1:]), append(slices.Clone(l), moved))
			for _, o := range others {
				if g := made(t, o...); Same(f, g) || Same(g, f) {
					t.Fatal(n, i, o)
				}
			}
			if g := made(t, slices.Concat(l[i:], l[:i])...); !Same(f, g) || !Same(g, f) {
				t.Fatal(n, i)
			}
		}
	}
}

// TestSameByOtherRoutes: routes that are others, of which the entries are the same.
func TestSameByOtherRoutes(t *testing.T) {
	p := pre(0x0a000000, 8)
	for i, l := range [][]api.Route{
		kinds(p)[:4], kinds(p)[4:7],
		{taken(p, at(3, 2)...), taken(p, at(254, 2)...), {Prefix: p, Taken: true, Distance: -5, Next: at(0, 2)}},
		{taken(p, ways(0, 0)...), taken(p, ways(254, 254)...)},
	} {
		for _, x := range l {
			for _, y := range l {
				if !Same(made(t, x), made(t, y)) {
					t.Error(i, x, y)
				}
			}
		}
	}
}

func TestSameOfManyTables(t *testing.T) {
	r := rand.New(rand.NewSource(144))
	for range 400 {
		l, m := chance(r, 4), chance(r, 4)
		f, g := made(t, l...), made(t, m...)
		if want := slices.Equal(gone(f), gone(g)); Same(f, g) != want || Same(g, f) != want {
			t.Fatal(l, m)
		}
	}
}

func TestNilAndZero(t *testing.T) {
	var zero Fib
	missing := []*Fib{nil, {}, new(Fib), &zero}
	there := []*Fib{made(t), made(t, own(pre(0, 0))), made(t, numbered(20)...)}
	for i, f := range missing {
		for _, a := range probes(goodPrefixes()) {
			looked(t, f, nil, a)
		}
		if f.Len() != 0 || len(gone(f)) != 0 {
			t.Error(i, f.Len())
		}
		for _, g := range missing {
			if !Same(f, g) {
				t.Error(i, "not as another that is not there")
			}
		}
		for j, g := range there {
			if Same(f, g) || Same(g, f) {
				t.Error(i, j)
			}
		}
	}
	for i, f := range there {
		if !Same(f, f) {
			t.Error(i)
		}
	}
}

// P14.4

// follows fails unless, of an address, each hash tells one of Ports, and each of these is told.
func follows(t *testing.T, f *Fib, a api.Addr, r *rand.Rand) {
	t.Helper()
	p, w, is := f.Lookup(a)
	ports := f.Ports(a)
	told := map[int]int{}
	for i := range 400 {
		hash := uint32(i)
		if i >= 256 {
			hash = r.Uint32()
		}
		k, port := f.Pick(a, hash)
		if k != w.Kind || (k == api.WayOut) != slices.Contains(ports, port) {
			t.Fatalf("%x: %v: Pick(%d): %d, %d, of %v", uint32(a), p, hash, k, port, ports)
		}
		if k == api.WayOut {
			told[port]++
		}
	}
	for _, port := range ports {
		if told[port] == 0 {
			t.Fatalf("%x: %v: no hash tells %d of %v", uint32(a), p, port, ports)
		}
	}
	if goes := is && w.Kind == api.WayOut; goes != (len(ports) > 0) || goes != (len(told) > 0) {
		t.Fatalf("%x: %v, %d: goes out by %v", uint32(a), p, w.Kind, ports)
	}
}

func TestFollows(t *testing.T) {
	r := rand.New(rand.NewSource(145))
	for range 300 {
		l := chance(r, 40)
		f := made(t, l...)
		for _, a := range probes(prefixes(l)) {
			follows(t, f, a, r)
		}
	}
	for _, f := range []*Fib{nil, {}, made(t)} {
		follows(t, f, 0, r)
		follows(t, f, 0x0a000000, r)
	}
}

// TestNothingGoesOut: of what no prefix has, and of what is rejected below a prefix by which it would go out.
func TestNothingGoesOut(t *testing.T) {
	r := rand.New(rand.NewSource(146))
	for _, next := range goodNexts() {
		if len(next) == 0 {
			continue
		}
		l := []api.Route{taken(pre(0x0a000000, 8), next...), left(pre(0x0a010000, 16), next...), taken(pre(0x0a020000, 16)), taken(pre(0x0a010101, 32), next...)}
		f := made(t, l...)
		for a, want := range map[api.Addr]bool{0: false, 0x09ffffff: false, 0x0a000000: true, 0x0a010000: false, 0x0a010100: false, 0x0a010101: true, 0x0a010102: false, 0x0a01ffff: false, 0x0a020000: false, 0x0a02ffff: false, 0x0a030000: true, 0x0b000000: false, 0xffffffff: false} {
			follows(t, f, a, r)
			if got := len(f.Ports(a)) > 0; got != want {
				t.Errorf("%v: %x: %t", next, uint32(a), got)
			}
			for hash := range uint32(256) {
				if k, _ := f.Pick(a, hash); (k == api.WayOut) != want {
					t.Errorf("%v: Pick(%x, %d): %d", next, uint32(a), hash, k)
				}
			}
		}
	}
}

// Examples of the chapter.

func TestExamples(t *testing.T) {
	p := pre(0x0a000000, 8)
	f := made(t, taken(p, api.Next{Port: 2, Distance: 3}), left(pre(0x0a010000, 16)))
	if q, w, is := f.Lookup(0x0a010203); q != pre(0x0a010000, 16) || w != (api.Way{Kind: api.WayReject}) || !is {
		t.Error(q, w, is)
	}
	if k, port := f.Pick(0x0a020000, 77); k != api.WayOut || port != 2 {
		t.Error(k, port)
	}
	refused(t, api.ErrArg, taken(p), taken(p))
	refused(t, api.ErrArg, own(p), own(p))
	if k, port := made(t).Pick(0, 0); k != api.WayNone || port != 0 {
		t.Error(k, port)
	}
}

// Rules for all layers.

// spare are routes whose lists have room behind them, in which something stands.
func spare(l []api.Route) []api.Route {
	l = append(slices.Clone(l), own(pre(1, 32)), left(pre(2, 32)))
	for i := range l {
		l[i].Next = append(slices.Clone(l[i].Next), api.Next{Port: 91, Distance: 92}, api.Next{Port: 93, Distance: 94})
		l[i].Next = l[i].Next[:len(l[i].Next)-2]
	}
	return l[:len(l)-2]
}

// deep is a copy of all that routes have, behind their ends, too.
func deep(l []api.Route) []api.Route {
	l = slices.Clone(l[:cap(l)])
	for i := range l {
		l[i].Next = slices.Clone(l[i].Next[:cap(l[i].Next)])
	}
	return l
}

func sameRoutes(x, y []api.Route) bool {
	return slices.EqualFunc(x, y, func(a, b api.Route) bool {
		return a.Prefix == b.Prefix && a.Own == b.Own && a.Taken == b.Taken && a.Distance == b.Distance && slices.Equal(a.Next, b.Next)
	})
}

// TestRoutesAreNotChangedAndNothingIsShared: not by a call, and no table by what its routes become behind it.
func TestRoutesAreNotChangedAndNothingIsShared(t *testing.T) {
	r := rand.New(rand.NewSource(147))
	for i := range 300 {
		l := spare(chance(r, 30))
		want := deep(l[:len(l):len(l)])
		for k := range want {
			want[k].Next = slices.Clone(l[k].Next)
		}
		if i%4 == 0 && len(l) > 0 {
			l[r.Intn(len(l))].Next = []api.Next{{Port: 5, Distance: 255}}
		}
		was := deep(l)
		for _, x := range l {
			May(x)
			Entry(x)
		}
		f, e := Make(l...)
		if !sameRoutes(deep(l), was) {
			t.Fatalf("%v: changed to %v", was, l)
		}
		if e != api.OK {
			continue
		}
		held(t, f, want)
		all := f.All()
		for k := range l[:cap(l)] {
			next := l[:cap(l)][k].Next
			for j := range next[:cap(next)] {
				next[:cap(next)][j] = api.Next{Port: 6, Distance: 6}
			}
			l[:cap(l)][k] = api.Route{Prefix: pre(0xf0000000, 4), Own: true}
		}
		held(t, f, want)
		n := 0
		for range all {
			n++
		}
		if n != len(want) {
			t.Fatal(n, len(want))
		}
	}
}

// TestAnswersAreTheCallers: what is done to an answer is seen by nobody else.
func TestAnswersAreTheCallers(t *testing.T) {
	l := numbered(60)
	f := made(t, l...)
	for _, a := range probes(prefixes(l)) {
		ports := f.Ports(a)
		kept := slices.Clone(ports)
		for i := range ports[:cap(ports)] {
			ports[:cap(ports)][i] = -9
		}
		_ = append(ports, -9)
		again := f.Ports(a)
		if !slices.Equal(again, kept) {
			t.Fatal(a, again, kept)
		}
		for i := range ports[:cap(ports)] {
			ports[:cap(ports)][i] = -7
		}
		if !slices.Equal(again, kept) {
			t.Fatal(a, again, kept)
		}
		_, w, _ := f.Lookup(a)
		for i := range w.Buckets {
			w.Buckets[i] = -9
		}
		w.Kind = -9
	}
	for _, w := range f.All() {
		w.Kind = -9
		w.Buckets = [256]int{-9}
	}
	w, _ := Entry(l[8])
	w.Buckets[0] = -9
	held(t, f, l)
}

// TestTablesAreApart: one that is made of the same routes, or of others, changes none that was.
func TestTablesAreApart(t *testing.T) {
	r := rand.New(rand.NewSource(148))
	var fs []*Fib
	var ls [][]api.Route
	for range 40 {
		l := chance(r, 20)
		fs, ls = append(fs, made(t, l...), made(t, l...)), append(ls, l, l)
	}
	for i, f := range fs {
		held(t, f, ls[i])
	}
}
