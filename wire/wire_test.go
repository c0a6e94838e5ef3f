package wire

import (
	"math"
	"slices"
	"strconv"
	"strings"
	"testing"

	"guidepost/api"
)

// prefix is one of four bytes and a Len, which need not be one that may be.
func prefix(a, b, c, d byte, n int) api.Prefix {
	return api.Prefix{Addr: api.Addr(a)<<24 | api.Addr(b)<<16 | api.Addr(c)<<8 | api.Addr(d), Len: n}
}

// mask has the first n bits, worked out in another way than the program's.
func mask(n int) uint64 {
	return (1<<32 - 1) - (1<<(32-n) - 1)
}

// samples are prefixes that may be: of each Len those of several addresses.
func samples() []api.Prefix {
	var l []api.Prefix
	for _, a := range []uint64{0, 0x0a010203, 0x0a400000, 0x0affffff, 0x7fffffff, 0x80000000, 0xc0a80001, 0xffffffff} {
		for n := range 33 {
			l = append(l, api.Prefix{Addr: api.Addr(a & mask(n)), Len: n})
		}
	}
	return l
}

// wrong are prefixes that may not be.
func wrong() []api.Prefix {
	return []api.Prefix{
		{Len: -1}, {Len: 33}, {Len: math.MinInt}, {Len: math.MaxInt}, {Len: 64}, {Len: 1 << 32}, {Len: -32},
		prefix(0, 0, 0, 1, 0), prefix(0, 0, 0, 1, 31), prefix(128, 0, 0, 0, 0), prefix(10, 0, 0, 1, 8),
		prefix(10, 64, 0, 0, 9), prefix(255, 255, 255, 255, 31), prefix(10, 0, 0, 0, 33), prefix(10, 0, 0, 0, -8),
	}
}

// P1.1

func TestPut(t *testing.T) {
	for _, x := range []struct {
		n    uint64
		size int
		want []byte
	}{
		{258, 2, []byte{1, 2}},
		{258, 3, []byte{0, 1, 2}},
		{0, 1, []byte{0}},
		{255, 1, []byte{255}},
		{65535, 2, []byte{255, 255}},
		{0x0102030405060708, 8, []byte{1, 2, 3, 4, 5, 6, 7, 8}},
		{0x01020304050607, 7, []byte{1, 2, 3, 4, 5, 6, 7}},
		{math.MaxUint64, 8, []byte{255, 255, 255, 255, 255, 255, 255, 255}},
		{0, 8, make([]byte, 8)},
	} {
		if b, e := Put(x.n, x.size); e != api.OK || !slices.Equal(b, x.want) {
			t.Errorf("Put(%d, %d) = %v, %v", x.n, x.size, b, e)
		}
	}
}

func TestPutRefuses(t *testing.T) {
	for _, size := range []int{0, -1, 9, 64, math.MinInt, math.MaxInt, 1 << 61, -1 << 61} {
		for _, n := range []uint64{0, 1, math.MaxUint64} {
			if b, e := Put(n, size); b != nil || e != api.ErrArg {
				t.Errorf("Put(%d, %d) = %v, %v", n, size, b, e)
			}
		}
	}
	for size := 1; size < 8; size++ {
		most := uint64(1)<<(8*size) - 1
		if b, e := Put(most, size); e != api.OK || len(b) != size {
			t.Errorf("Put(%d, %d) = %v, %v", most, size, b, e)
		}
		for _, n := range []uint64{most + 1, math.MaxUint64} {
			if b, e := Put(n, size); b != nil || e != api.ErrArg {
				t.Errorf("Put(%d, %d) = %v, %v", n, size, b, e)
			}
		}
	}
}

func TestGet(t *testing.T) {
	for _, x := range []struct {
		b    []byte
		want uint64
	}{
		{[]byte{1, 2}, 258},
		{[]byte{0}, 0},
		{[]byte{0, 0, 7}, 7},
		{[]byte{255}, 255},
		{[]byte{1, 2, 3, 4, 5, 6, 7, 8}, 0x0102030405060708},
		{[]byte{255, 255, 255, 255, 255, 255, 255, 255}, math.MaxUint64},
	} {
		kept := slices.Clone(x.b)
		if n, e := Get(x.b); e != api.OK || n != x.want || !slices.Equal(x.b, kept) {
			t.Errorf("Get(%v) = %d, %v", kept, n, e)
		}
	}
	for _, b := range [][]byte{nil, {}, make([]byte, 9), make([]byte, 16), {1, 2, 3, 4, 5, 6, 7, 8, 9}} {
		if n, e := Get(b); n != 0 || e != api.ErrArg {
			t.Errorf("Get(%v) = %d, %v", b, n, e)
		}
	}
}

// P1.2

func TestJoin(t *testing.T) {
	for _, x := range []struct {
		l    [][]byte
		want []byte
	}{
		{nil, nil},
		{[][]byte{nil}, nil},
		{[][]byte{{}, nil}, nil},
		{[][]byte{{1}}, []byte{1}},
		{[][]byte{{1, 2}, {}, {3}, nil, {4, 5, 6}}, []byte{1, 2, 3, 4, 5, 6}},
		{[][]byte{{2}, {1}}, []byte{2, 1}},
	} {
		if b := Join(x.l...); !slices.Equal(b, x.want) {
			t.Errorf("Join(%v) = %v", x.l, b)
		}
	}
}

func TestJoinIsNew(t *testing.T) {
	room := []byte{1, 2, 3, 4}
	b := Join(room[:2])
	b[0] = 9
	if _ = append(b, 8); !slices.Equal(room, []byte{1, 2, 3, 4}) {
		t.Error("one list: ", room)
	}
	b = Join(room[:1], []byte{7})
	if b[0] = 9; !slices.Equal(room, []byte{1, 2, 3, 4}) {
		t.Error("two lists: ", room)
	}
}

func TestCut(t *testing.T) {
	for _, x := range []struct {
		b     []byte
		sizes []int
		want  [][]byte
	}{
		{nil, nil, nil},
		{[]byte{}, []int{0, 0}, [][]byte{{}, {}}},
		{[]byte{1, 2, 3}, []int{3}, [][]byte{{1, 2, 3}}},
		{[]byte{1, 2, 3}, []int{1, 0, 2}, [][]byte{{1}, {}, {2, 3}}},
		{[]byte{1, 2, 3, 4}, []int{0, 2, 1, 1, 0}, [][]byte{{}, {1, 2}, {3}, {4}, {}}},
	} {
		l, e := Cut(x.b, x.sizes...)
		if e != api.OK || !slices.EqualFunc(l, x.want, slices.Equal) {
			t.Errorf("Cut(%v, %v) = %v, %v", x.b, x.sizes, l, e)
		}
	}
}

func TestCutRefuses(t *testing.T) {
	three := []byte{1, 2, 3}
	for _, x := range []struct {
		b     []byte
		sizes []int
		want  api.Errno
	}{
		{three, nil, api.ErrBytes},
		{three, []int{0}, api.ErrBytes},
		{three, []int{1, 1}, api.ErrBytes},
		{three, []int{4}, api.ErrBytes},
		{three, []int{1, 2, 1}, api.ErrBytes},
		{nil, []int{1}, api.ErrBytes},
		{three, []int{math.MaxInt, math.MaxInt, 5}, api.ErrBytes},
		{three, []int{3, math.MaxInt, math.MaxInt, 2}, api.ErrBytes},
		{three, []int{-1}, api.ErrArg},
		{three, []int{math.MinInt}, api.ErrArg},
		{three, []int{-1, 4}, api.ErrArg},
		{three, []int{4, -1}, api.ErrArg},
		{three, []int{9, 9, -1}, api.ErrArg},
		{nil, []int{1, -1}, api.ErrArg},
	} {
		if l, e := Cut(x.b, x.sizes...); l != nil || e != x.want {
			t.Errorf("Cut(%v, %v) = %v, %v", x.b, x.sizes, l, e)
		}
	}
}

func TestCutIsNew(t *testing.T) {
	b, sizes := []byte{1, 2, 3, 4, 5}, []int{2, 0, 2, 1}
	l, e := Cut(b, sizes...)
	if e != api.OK {
		t.Fatal(e)
	}
	for i := range l {
		_ = append(l[i], 99)
	}
	if !slices.EqualFunc(l, [][]byte{{1, 2}, {}, {3, 4}, {5}}, slices.Equal) {
		t.Error("parts share memory: ", l)
	}
	for i := range l {
		clear(l[i])
	}
	if !slices.Equal(b, []byte{1, 2, 3, 4, 5}) || !slices.Equal(sizes, []int{2, 0, 2, 1}) {
		t.Error("what is handed in was changed: ", b, sizes)
	}
}

func TestHex(t *testing.T) {
	for s, b := range map[string][]byte{"": nil, "00": {0}, "00ab": {0, 171}, "0f": {15}, "f0": {240}, "0123456789abcdef": {1, 35, 69, 103, 137, 171, 205, 239}, "ffff": {255, 255}} {
		if got := Hex(b); got != s {
			t.Errorf("Hex(%v) = %q", b, got)
		}
		if got, e := Unhex(s); e != api.OK || !slices.Equal(got, b) {
			t.Errorf("Unhex(%q) = %v, %v", s, got, e)
		}
	}
}

func TestUnhexRefuses(t *testing.T) {
	for _, s := range []string{"0", "000", "0A", "A0", "FF", "0g", "g0", "0x00", " 00", "00 ", "0 ", "00\n", "-1", "+1", "0:", "0/", "0`", "00é", "\xff0", "0\x00", "00ag", "ag00", "a", "abc"} {
		if b, e := Unhex(s); b != nil || e != api.ErrBytes {
			t.Errorf("Unhex(%q) = %v, %v", s, b, e)
		}
	}
	for c := range 256 {
		good := strings.ContainsRune("0123456789abcdef", rune(c))
		for _, s := range []string{string([]byte{'7', byte(c)}), string([]byte{byte(c), '7'})} {
			if _, e := Unhex(s); (e == api.OK) != good {
				t.Errorf("Unhex(%q): %v", s, e)
			}
		}
	}
}

// P1.3

func TestAddrTexts(t *testing.T) {
	for s, a := range map[string]api.Addr{
		"0.0.0.0": 0, "10.0.0.1": 167772161, "10.1.2.3": 0x0a010203, "1.20.255.100": 0x0114ff64, "127.0.0.1": 0x7f000001,
		"255.255.255.255": math.MaxUint32, "0.0.0.255": 255, "255.0.0.0": 0xff000000, "9.10.99.199": 0x090a63c7,
	} {
		if got := AddrText(a); got != s {
			t.Errorf("AddrText(%d) = %q", a, got)
		}
		if got, e := AddrOf(s); e != api.OK || got != a {
			t.Errorf("AddrOf(%q) = %d, %v", s, got, e)
		}
	}
}

func TestAddrOfRefuses(t *testing.T) {
	for _, s := range []string{
		"", ".", "...", "1", "1.2", "1.2.3", "1.2.3.4.", "1.2.3.4.5", ".1.2.3.4", "1..2.3", "1.2.3.", ".2.3.4", "1.2..4",
		"10.0.0.01", "10.0.0.256", "256.0.0.0", "0.999.0.0", "00.0.0.0", "0.0.0.00", "01.2.3.4", "1.2.3.004",
		"+1.2.3.4", "1.2.3.+4", "-1.2.3.4", "-0.0.0.0", "1.2.-3.4", "1.2.3.4 ", " 1.2.3.4", "1. 2.3.4", "1.2.3.4\n", "1.2.3.4/8",
		"a.b.c.d", "1.2.3.0x4", "1.2.3.4a", "1.2.3.1_0", "1,2,3,4", "1.2.3.4\x00", "1.2.3.\u0664", "1.2.3.18446744073709551616", "4294967296.0.0.0", "1.2.3.1e1",
		strings.Repeat("1.", 1000), strings.Repeat("0", 1000) + ".0.0.0", strings.Repeat("9", 1000) + ".0.0.0",
	} {
		if a, e := AddrOf(s); a != 0 || e != api.ErrBytes {
			t.Errorf("AddrOf(%q) = %d, %v", s, a, e)
		}
	}
}

func TestPrefixTexts(t *testing.T) {
	for s, p := range map[string]api.Prefix{
		"0.0.0.0/0": {}, "0.0.0.0/32": {Len: 32}, "10.0.0.0/8": prefix(10, 0, 0, 0, 8), "10.64.0.0/10": prefix(10, 64, 0, 0, 10),
		"128.0.0.0/1": prefix(128, 0, 0, 0, 1), "255.255.255.255/32": prefix(255, 255, 255, 255, 32), "10.1.2.254/31": prefix(10, 1, 2, 254, 31), "0.0.0.0/9": {Len: 9},
	} {
		if got, e := PrefixText(p); e != api.OK || got != s {
			t.Errorf("PrefixText(%v) = %q, %v", p, got, e)
		}
		if got, e := PrefixOf(s); e != api.OK || got != p {
			t.Errorf("PrefixOf(%q) = %v, %v", s, got, e)
		}
	}
	for _, p := range wrong() {
		if s, e := PrefixText(p); s != "" || e != api.ErrArg {
			t.Errorf("PrefixText(%v) = %q, %v", p, s, e)
		}
	}
}

func TestPrefixOfRefuses(t *testing.T) {
	for _, s := range []string{
		"", "/", "/0", "0", "0.0.0.0", "0.0.0.0/", "10.0.0.0", "10.0.0/8", "0.0.0/0", "10.0.0.0.0/8",
		"10.0.0.1/8", "10.64.0.0/9", "0.0.0.1/0", "128.0.0.0/0", "255.255.255.255/31",
		"0.0.0.0/33", "0.0.0.0/-1", "0.0.0.0/-0", "0.0.0.0/+8", "0.0.0.0/08", "0.0.0.0/00", "0.0.0.0/032", "0.0.0.0/256", "0.0.0.0/4294967296", "0.0.0.0/18446744073709551624",
		"0.0.0.0//8", "0.0.0.0/8/8", "0.0.0.0/8/", "0.0.0.0/ 8", "0.0.0.0 /8", " 0.0.0.0/8", "0.0.0.0/8 ", "0.0.0.0/8\n", "0.0.0.0/x", "0.0.0.0/0x8",
		"00.0.0.0/8", "256.0.0.0/8", "10.0.0.0\\8",
	} {
		if p, e := PrefixOf(s); p != (api.Prefix{}) || e != api.ErrBytes {
			t.Errorf("PrefixOf(%q) = %v, %v", s, p, e)
		}
	}
}

// P1.4

func TestMayPrefix(t *testing.T) {
	for _, p := range samples() {
		if !MayPrefix(p) {
			t.Error(p)
		}
	}
	for _, p := range wrong() {
		if MayPrefix(p) {
			t.Error(p)
		}
	}
	for bit := range 32 { // the bit is the one behind 31 - bit others
		for n := range 33 {
			if got := MayPrefix(api.Prefix{Addr: 1 << bit, Len: n}); got != (n > 31-bit) {
				t.Error(bit, n, got)
			}
		}
	}
}

func TestHas(t *testing.T) {
	for _, p := range samples() {
		first, last := uint64(p.Addr), uint64(p.Addr)+(1<<(32-p.Len)-1)
		for _, a := range []uint64{first, last, first + (last-first)/2} {
			if !Has(p, api.Addr(a)) {
				t.Error(p, a)
			}
		}
		if first > 0 && Has(p, api.Addr(first-1)) || last < math.MaxUint32 && Has(p, api.Addr(last+1)) {
			t.Error("beside it: ", p)
		}
	}
	if ten := prefix(10, 0, 0, 0, 8); !Has(ten, 0x0a090909) || Has(ten, 0x0b090909) || Has(ten, 0x09ffffff) {
		t.Error(ten)
	}
	for _, p := range wrong() {
		for _, a := range []api.Addr{p.Addr, 0, 1, math.MaxUint32} {
			if Has(p, a) {
				t.Error("one that may not be: ", p, a)
			}
		}
	}
}

func TestWithin(t *testing.T) {
	for _, p := range samples() {
		for _, q := range samples() {
			end := func(p api.Prefix) uint64 { return uint64(p.Addr) + 1<<(32-p.Len) }
			want := p.Addr <= q.Addr && end(q) <= end(p)
			if Within(p, q) != want {
				t.Error(p, q, !want)
			}
		}
	}
	for _, p := range wrong() {
		for _, q := range append(samples(), wrong()...) {
			if Within(p, q) || Within(q, p) {
				t.Error("one that may not be: ", p, q)
			}
		}
	}
}

func TestCompare(t *testing.T) {
	for _, x := range []struct {
		p, q api.Prefix
		want int
	}{
		{api.Prefix{}, api.Prefix{}, 0},
		{api.Prefix{Len: 1}, api.Prefix{Len: 2}, -1},
		{prefix(10, 0, 0, 0, 8), prefix(10, 0, 0, 0, 16), -1},
		{prefix(9, 0, 0, 0, 32), prefix(10, 0, 0, 0, 8), -1},
		{prefix(127, 0, 0, 0, 8), prefix(128, 0, 0, 0, 1), -1},
		{api.Prefix{}, prefix(255, 255, 255, 255, 32), -1},
		{prefix(10, 64, 0, 0, 10), prefix(10, 64, 0, 0, 10), 0},
		// Prefixes that may not be have an order, too.
		{api.Prefix{Len: math.MinInt}, api.Prefix{Len: math.MaxInt}, -1},
		{api.Prefix{Len: -1}, api.Prefix{Len: 0}, -1},
		{api.Prefix{Addr: 1, Len: -1}, api.Prefix{Addr: 0, Len: 33}, 1},
		{api.Prefix{Addr: 5, Len: 40}, api.Prefix{Addr: 5, Len: 40}, 0},
	} {
		if got := Compare(x.p, x.q); got != x.want {
			t.Errorf("Compare(%v, %v) = %d", x.p, x.q, got)
		}
		if got := Compare(x.q, x.p); got != -x.want {
			t.Errorf("Compare(%v, %v) = %d", x.q, x.p, got)
		}
	}
}

// P1.5

func TestNumbersAreReadAsTold(t *testing.T) {
	for size := 1; size <= 8; size++ {
		n := uint64(0x9e3779b97f4a7c15)
		for range 200 {
			n = n*6364136223846793005 + 1442695040888963407
			m := n >> (64 - 8*size)
			b, e := Put(m, size)
			if got, f := Get(b); e != api.OK || f != api.OK || got != m {
				t.Fatal(m, size, b, e, got, f)
			}
		}
	}
}

func TestBytesAreReadAsTold(t *testing.T) {
	all := make([]byte, 256)
	for i := range all {
		all[i] = byte(i)
	}
	for n := range len(all) + 1 {
		b := all[:n]
		if got, e := Unhex(Hex(b)); e != api.OK || !slices.Equal(got, b) {
			t.Fatal(n, got, e)
		}
		parts, e := Cut(b, n/3, 0, n/2, n-n/3-n/2)
		if got := Join(parts...); e != api.OK || !slices.Equal(got, b) {
			t.Fatal(n, parts, e)
		}
	}
	parts := [][]byte{{1, 2}, {}, {3}, {4, 5, 6}}
	if got, e := Cut(Join(parts...), 2, 0, 1, 3); e != api.OK || !slices.EqualFunc(got, parts, slices.Equal) {
		t.Error(got, e)
	}
}

func TestAddressesAreReadAsTold(t *testing.T) {
	for i := range 256 { // each byte in each place
		for place := range 4 {
			a := api.Addr(i)<<(8*place) | 0x01010101&^(0xff<<(8*place))
			if got, e := AddrOf(AddrText(a)); e != api.OK || got != a {
				t.Fatal(a, got, e)
			}
		}
	}
	for _, n := range []int{0, 1, 9, 10, 99, 100, 255, 256, 260, 999} { // only a text that would be told is read
		for _, s := range []string{strconv.Itoa(n), "0" + strconv.Itoa(n)} {
			text := "1." + s + ".3.4"
			if a, e := AddrOf(text); (e == api.OK) != (n < 256 && len(s) == len(strconv.Itoa(n))) || e == api.OK && AddrText(a) != text {
				t.Error(text, a, e)
			}
		}
	}
}

func TestPrefixesAreReadAsTold(t *testing.T) {
	for _, p := range samples() {
		s, e := PrefixText(p)
		if got, f := PrefixOf(s); e != api.OK || f != api.OK || got != p {
			t.Error(p, s, e, got, f)
		}
	}
}

func TestTwoPrefixesNestOrPart(t *testing.T) {
	for _, p := range samples() {
		for _, q := range samples() {
			// Of two that part none has the other's first or last address.
			last := func(p api.Prefix) api.Addr { return p.Addr + api.Addr(uint64(1)<<(32-p.Len)-1) }
			meet := Has(p, q.Addr) || Has(q, p.Addr) || Has(p, last(q)) || Has(q, last(p))
			if nest := Within(p, q) || Within(q, p); nest != meet {
				t.Error(p, q, nest, meet)
			}
			if both := Within(p, q) && Within(q, p); both != (p == q) || both != (Compare(p, q) == 0) {
				t.Error(p, q, both)
			}
		}
	}
}
