package sum

import (
	"bytes"
	"math"
	"slices"
	"testing"
)

// edges are words at which a carry begins or ends, and some between.
func edges() []uint16 {
	return []uint16{0, 1, 2, 127, 128, 255, 256, 257, 0x1234, 32767, 32768, 32769, 0xdd2f, 65279, 65280, 65533, 65534, 65535}
}

// carried is n with its carries, worked out in another way than the program's: words count modulo 65535, and only noughts alone are 0.
func carried(n uint64) uint16 {
	if n == 0 {
		return 0
	}
	return uint16((n-1)%65535 + 1)
}

// total is the sum of bytes, the carries taken all at once at the end.
func total(b []byte) uint16 {
	var n uint64
	for i, x := range b {
		if i%2 == 0 {
			n += uint64(x) * 256
		} else {
			n += uint64(x)
		}
	}
	return carried(n)
}

// sample are bytes that look like no other's: the same ones for each seed.
func sample(size int, seed uint32) []byte {
	b := make([]byte, size)
	for i := range b {
		seed = seed*1664525 + 1013904223
		b[i] = byte(seed >> 24)
	}
	return b
}

// word are the two bytes of a word.
func word(n uint16) []byte { return []byte{byte(n >> 8), byte(n)} }

// example are the bytes of the document's example.
func example() []byte { return []byte{0, 1, 0xf2, 3, 0xf4, 0xf5, 0xf6, 0xf7} }

// P2.1

func TestAdd(t *testing.T) {
	for _, x := range []struct{ x, y, want uint16 }{
		{0, 0, 0}, {0, 1, 1}, {1, 2, 3}, {65535, 0, 65535}, {65534, 1, 65535},
		{65535, 1, 1}, {65534, 2, 1}, {32768, 32768, 1}, {65535, 65534, 65534}, {65535, 65535, 65535},
	} {
		if got := Add(x.x, x.y); got != x.want {
			t.Errorf("Add(%d, %d) = %d", x.x, x.y, got)
		}
		if got := Add(x.y, x.x); got != x.want {
			t.Errorf("Add(%d, %d) = %d", x.y, x.x, got)
		}
	}
	for _, x := range edges() {
		for y := range 65536 {
			if got := Add(x, uint16(y)); got != carried(uint64(x)+uint64(y)) {
				t.Fatalf("Add(%d, %d) = %d", x, y, got)
			}
		}
	}
}

func TestTotalAndCheck(t *testing.T) {
	for _, x := range []struct {
		l    [][]byte
		want uint16
	}{
		{nil, 0},
		{[][]byte{nil}, 0},
		{[][]byte{{}, nil, {}}, 0},
		{[][]byte{{0}}, 0},
		{[][]byte{make([]byte, 99)}, 0},
		{[][]byte{{1}}, 256},
		{[][]byte{{1, 2}}, 258},
		{[][]byte{{1, 2, 3}}, 258 + 768},
		{[][]byte{example()}, 56818},
		{[][]byte{{255}}, 65280},
		{[][]byte{{255, 255}}, 65535},
		{[][]byte{{255, 255, 0}}, 65535},
		{[][]byte{{255, 255, 255, 255}}, 65535},
		// 65535, 65536 and 65537 in all.
		{[][]byte{{255, 254, 0, 1}}, 65535},
		{[][]byte{{255, 255, 0, 1}}, 1},
		{[][]byte{{255, 255, 0, 2}}, 2},
		{[][]byte{{255, 254, 1}}, 255},
		// One byte of a word in each list, with empty ones between.
		{[][]byte{{1}, {2}}, 258},
		{[][]byte{{1}, nil, {}, {2}}, 258},
		{[][]byte{nil, {1}, {2, 3}, {}, {4}, nil}, 258 + 772},
		{[][]byte{{1}, {2}, {3}}, 258 + 768},
		{[][]byte{{0}, {1}}, 1},
		{[][]byte{{255, 255}, {0}, {1}}, 1},
	} {
		if got := Total(x.l...); got != x.want {
			t.Errorf("Total(%v) = %d", x.l, got)
		}
		if got := Check(x.l...); got != 65535-x.want {
			t.Errorf("Check(%v) = %d", x.l, got)
		}
	}
	if got := Total(); got != 0 {
		t.Error("Total() =", got)
	}
	if got := Check(); got != 65535 {
		t.Error("Check() =", got)
	}
	if got := Check(example()); got != 8717 {
		t.Error("Check(example) =", got)
	}
}

func TestTotalOfAllSizes(t *testing.T) {
	for size := range 300 {
		for _, b := range [][]byte{sample(size, uint32(size)), bytes.Repeat([]byte{255}, size), make([]byte, size)} {
			want := total(b)
			if got := Total(b); got != want {
				t.Fatalf("Total(%v) = %d, want %d", b, got, want)
			}
			if got := Check(b); got != 65535-want {
				t.Fatalf("Check(%v) = %d, want %d", b, got, 65535-want)
			}
		}
	}
	// More carries than one word has room for.
	if got := Total(bytes.Repeat([]byte{255}, 300001)); got != 65280 {
		t.Error("many bytes of 255: ", got)
	}
	if b := sample(300001, 7); Total(b) != total(b) {
		t.Error("many bytes: ", Total(b))
	}
}

func TestTotalOfPartedLists(t *testing.T) {
	b := sample(11, 3)
	want := total(b)
	// Each bit of cuts tells whether b is parted there.
	for cuts := range 1 << (len(b) - 1) {
		var plain, wide [][]byte
		from := 0
		for i := 1; i <= len(b); i++ {
			if i == len(b) || cuts>>(i-1)&1 == 1 {
				plain = append(plain, b[from:i])
				wide = append(wide, nil, b[from:i], []byte{})
				from = i
			}
		}
		if Total(plain...) != want || Total(wide...) != want {
			t.Fatalf("Total(%v) = %d, want %d", plain, Total(plain...), want)
		}
		if Check(plain...) != 65535-want || Check(wide...) != 65535-want {
			t.Fatalf("Check(%v) = %d, want %d", plain, Check(plain...), 65535-want)
		}
	}
}

func TestGood(t *testing.T) {
	for _, b := range [][]byte{
		{255, 255}, {255, 255, 0}, {255, 255, 0, 0}, {0, 1, 255, 254}, {255, 255, 255, 255},
		{255, 0, 0, 255}, {128, 0, 127, 255}, {0, 255, 255}, append(example(), 0x22, 0x0d),
	} {
		if !Good(b) {
			t.Error("good: ", b)
		}
	}
	for _, b := range [][]byte{
		nil, {}, {0}, {0, 0}, make([]byte, 20), {255}, {255, 254}, {254, 255}, {255, 255, 0, 1}, {255, 255, 1},
		{0, 1, 255, 253}, {0, 1, 255, 255}, {0, 1, 254, 254}, {0, 1, 254, 255}, example(), append(example(), 0x0d, 0x22),
	} {
		if Good(b) {
			t.Error("not good: ", b)
		}
	}
	for n := range 65536 {
		if Good(word(uint16(n))) != (n == 65535) {
			t.Fatal(n)
		}
	}
}

func TestListsAreNotChanged(t *testing.T) {
	l := [][]byte{{1, 2, 3}, nil, {}, {4}}
	kept := [][]byte{{1, 2, 3}, {}, {}, {4}}
	if Total(l...) != Total(l...) || Check(l...) != Check(l...) || Good(l[0]) {
		t.Error("a second call answers otherwise")
	}
	if !slices.EqualFunc(l, kept, slices.Equal) {
		t.Error("what is handed in was changed: ", l)
	}
}

// P2.2

func TestChange(t *testing.T) {
	for _, x := range []struct{ c, m, n, want uint16 }{
		{0xdd2f, 0x5555, 0x3285, 0}, // RFC 1624's own
		{8717, 0xf203, 0x0909, 8717 + 0xf203 - 0x0909 - 65535},
		{0, 0, 0, 0},
		{0, 65535, 0, 0},
		{0, 0, 65535, 0},
		{0, 0, 1, 65534},
		{65535, 0, 0, 0},
		{65535, 0, 1, 65534},
		{65535, 0, 65535, 0},
		{65535, 65535, 0, 65535},
		{65535, 65535, 1, 65534},
		{65535, 65535, 65535, 0},
		{65534, 1, 0, 0},
		{65534, 1, 1, 65534},
		{65534, 1, 2, 65533},
		{1, 2, 3, 0},
		{3, 3, 7, 65534},
	} {
		if got := Change(x.c, x.m, x.n); got != x.want {
			t.Errorf("Change(%d, %d, %d) = %d", x.c, x.m, x.n, got)
		}
	}
	for _, c := range edges() {
		for _, m := range edges() {
			for _, n := range edges() {
				want := 65535 - carried(uint64(65535-c)+uint64(65535-m)+uint64(n))
				if got := Change(c, m, n); got != want {
					t.Errorf("Change(%d, %d, %d) = %d, want %d", c, m, n, got, want)
				}
			}
		}
	}
}

func TestFold(t *testing.T) {
	for _, x := range []struct {
		n    uint64
		want uint16
	}{
		{0, 0}, {1, 1}, {65535, 65535}, {65536, 1}, {65537, 2}, {65536*65536 + 65535, 1},
		{0x0001000200030004, 10}, {0x0004000000000000, 4}, {0x8000800000000000, 1}, {0x8000000000008000, 1},
		{0xffff000000000000, 65535}, {0xffff000000000001, 1}, {0xffffffff00000000, 65535}, {1 << 63, 32768},
		{math.MaxUint64, 65535}, {math.MaxUint64 - 1, 65534}, {0xff00ff00ff00ff00, 64515},
	} {
		if got := Fold(x.n); got != x.want {
			t.Errorf("Fold(%x) = %d", x.n, got)
		}
	}
	n := uint64(0x9e3779b97f4a7c15)
	for range 2000 {
		n = n*6364136223846793005 + 1442695040888963407
		want := carried(n>>48 + n>>32&65535 + n>>16&65535 + n&65535)
		if got := Fold(n); got != want || got != Total(word(uint16(n>>48)), word(uint16(n>>32)), word(uint16(n>>16)), word(uint16(n))) {
			t.Fatalf("Fold(%x) = %d, want %d", n, got, want)
		}
	}
}

// P2.3

func TestBytesWithTheirChecksumAreGood(t *testing.T) {
	for size := 0; size < 200; size += 2 {
		for _, b := range [][]byte{make([]byte, size), bytes.Repeat([]byte{255}, size), sample(size, 1), sample(size, uint32(size))} {
			whole := append(slices.Clone(b), word(Check(b))...)
			if !Good(whole) {
				t.Fatal("not good: ", whole)
			}
			for i := range whole { // no byte alone may be another
				whole[i] ^= 0x10
				if Good(whole) {
					t.Fatal("good, though changed: ", i, whole)
				}
				whole[i] ^= 0x10
			}
		}
		noughts := make([]byte, size)
		if c := Check(noughts); c != 65535 || !Good(append(noughts, word(c)...)) {
			t.Fatal("noughts: ", size, c)
		}
	}
}

func TestChangeIsTheNewChecksum(t *testing.T) {
	noughts := make([]byte, 6)
	lists := [][]byte{noughts, {255, 255, 255, 255, 255, 255}, {255, 255, 0, 0, 0, 0}, {0, 0, 0, 1, 255, 254}, {0, 0, 0, 0, 0, 1}, sample(6, 5), sample(6, 9), example()}
	for _, m := range edges() {
		lists = append(lists, word(m), append(word(m), 0, 0))
	}
	for _, old := range lists {
		for at := 0; at < len(old); at += 2 {
			for _, n := range edges() {
				fresh := slices.Clone(old)
				copy(fresh[at:], word(n))
				got := Change(Check(old), uint16(old[at])<<8|uint16(old[at+1]), n)
				want := Check(fresh)
				if bytes.Equal(fresh, make([]byte, len(fresh))) {
					if got%65535 != 0 || want != 65535 {
						t.Errorf("all noughts then: %v, %d: Change %d, Check %d", old, at, got, want)
					}
				} else if got != want {
					t.Errorf("%v, %d, %d: Change %d, Check %d", old, at, n, got, want)
				}
			}
		}
	}
}

func TestChangeOfTheLastByteAlone(t *testing.T) {
	old, fresh := []byte{1, 2, 3}, []byte{1, 2, 200}
	if got := Change(Check(old), 3<<8, 200<<8); got != Check(fresh) {
		t.Error(got, Check(fresh))
	}
}
