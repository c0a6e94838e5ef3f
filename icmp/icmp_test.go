package icmp

import (
	"bytes"
	"encoding/hex"
	"math"
	"slices"
	"strings"
	"testing"

	"guidepost/api"
	"guidepost/ip"
)

// raw are the bytes that hexadecimal digits tell; blanks between them are none.
func raw(s string) []byte {
	b, err := hex.DecodeString(strings.ReplaceAll(s, " ", ""))
	if err != nil {
		panic(err)
	}
	return b
}

// varied are bytes that look like no other's: the same ones for each seed.
func varied(size int, seed uint32) []byte {
	b := make([]byte, size)
	for i := range b {
		seed = seed*1664525 + 1013904223
		b[i] = byte(seed >> 24)
	}
	return b
}

// whole is the sum of bytes with no carry taken, a last one alone being the higher one of a word.
func whole(b []byte) int {
	n := 0
	for i, x := range b {
		n += int(x) << (8 * (1 - i%2))
	}
	return n
}

// right asks in another way than the program's: a sum that is 65535 with carries is a multiple of that without.
func right(b []byte) bool { return len(b) > 7 && whole(b) > 0 && whole(b)%65535 == 0 }

// spelt are a message's bytes, worked out in another way than the program's.
func spelt(m api.Icmp) []byte {
	b := append([]byte{m.Type, m.Code, 0, 0, m.Rest[0], m.Rest[1], m.Rest[2], m.Rest[3]}, m.Body...)
	check := 65535
	if n := whole(b); n > 0 {
		check = 65534 - (n-1)%65535
	}
	b[2], b[3] = byte(check/256), byte(check%256)
	return b
}

// packet are the bytes of one that may be.
func packet(t *testing.T, h api.Header, payload []byte) []byte {
	t.Helper()
	b, e := ip.Bytes(h, payload)
	if e != api.OK {
		t.Fatal("no packet: ", h, len(payload), e)
	}
	return b
}

// read are a packet's header and its message, both of which must be right.
func read(t *testing.T, b []byte) (api.Header, api.Icmp) {
	t.Helper()
	h, payload, f := ip.Parse(b)
	if f != 0 || !right(payload) || len(b) != ip.Size(h)+len(payload) {
		t.Fatalf("no packet with a message that is right: %x, %d", b, f)
	}
	return h, api.Icmp{Type: payload[0], Code: payload[1], Rest: [4]byte(payload[4:8]), Body: payload[8:]}
}

// alike asks each field by itself, as a struct of values without lists can be compared.
func alike(a, b api.Icmp) bool {
	type fields struct {
		kind, code byte
		rest       [4]byte
		body       string
	}
	return fields{a.Type, a.Code, a.Rest, string(a.Body)} == fields{b.Type, b.Code, b.Rest, string(b.Body)}
}

func zero(m api.Icmp) bool { return m.Body == nil && alike(m, api.Icmp{}) }

// options are lists of 0 to 40 bytes that may be.
func options() [][]byte {
	l := [][]byte{nil, {1, 1, 1, 0}, {131, 3, 9, 0}, {0, 7, 99, 137}, {7, 7, 4, 1, 2, 3, 4, 1}}
	return append(l, bytes.Repeat([]byte{1}, 12), append([]byte{68, 40}, varied(38, 3)...))
}

// messages are of 8 bytes and more, even and odd.
func messages() []api.Icmp {
	l := []api.Icmp{
		{}, {Type: 8}, {Code: 1}, {Type: 8, Rest: [4]byte{0, 0, 0, 1}}, {Body: []byte{0}}, {Body: make([]byte, 9)}, {Body: []byte{1}}, {Body: []byte{0, 1}},
		{Type: 255, Code: 255}, {Type: 255, Code: 255, Rest: [4]byte{255, 255, 255, 255}, Body: []byte{255}}, {Rest: [4]byte{255, 255}}, {Rest: [4]byte{0, 0, 255, 254}},
		{Type: 3, Code: 4, Rest: [4]byte{0, 0, 5, 220}, Body: varied(28, 1)}, {Type: 200, Rest: [4]byte{1, 2, 3, 4}, Body: []byte("abc")},
	}
	for n := range uint32(70) {
		x := varied(6, n)
		l = append(l, api.Icmp{Type: x[0], Code: x[1], Rest: [4]byte(x[2:]), Body: varied(int(n), n+100)})
	}
	return append(l, api.Icmp{Type: 8, Body: varied(65507, 5)}, api.Icmp{Type: 8, Body: bytes.Repeat([]byte{255}, 70001)})
}

// wrongPackets have one fault each of those that a packet may have.
func wrongPackets(t *testing.T) [][]byte {
	t.Helper()
	sealed := func(b []byte, size int) []byte {
		b[10], b[11] = 0, 0
		n := 65534 - (whole(b[:size])-1)%65535
		b[10], b[11] = byte(n/256), byte(n%256)
		return b
	}
	l := [][]byte{nil, {}, {69}, make([]byte, 20), make([]byte, 100)}
	for _, m := range []api.Icmp{{Type: 8, Body: []byte{1}}, {Type: 3}} { // one that is an echo, but for its fault, and one that is an error
		good := packet(t, api.Header{TTL: 9, Proto: 1, Src: 1, Dst: 2, Options: []byte{7, 4, 1, 1}}, spelt(m))
		l = append(l, good[:19], good[:23], good[:len(good)-1])
		for _, x := range []struct {
			at int
			to byte
		}{{0, 0x56}, {0, 0x36}, {0, 0x44}, {0, 0x4f}, {3, 23}, {3, byte(len(good) + 1)}, {21, 5}, {21, 1}, {21, 0}} {
			b := slices.Clone(good)
			b[x.at] = x.to
			l = append(l, sealed(b, 24))
		}
		broken := slices.Clone(good)
		broken[10] ^= 1
		l = append(l, broken)
	}
	for i, b := range l {
		if _, _, f := ip.Parse(b); f == 0 {
			t.Fatal("not wrong: ", i)
		}
	}
	return l
}

// isError are the Types that the document names.
func isError(n byte) bool { return slices.Contains([]byte{3, 4, 5, 11, 12}, n) }

// P4.1

func TestBytes(t *testing.T) {
	for _, x := range []struct {
		m    api.Icmp
		want string
	}{
		{api.Icmp{Type: 8, Rest: [4]byte{0, 0, 0, 1}}, "0800f7fe 00000001"},
		{api.Icmp{}, "0000ffff 00000000"},
		{api.Icmp{Type: 8}, "0800f7ff 00000000"},
		{api.Icmp{Code: 1}, "0001fffe 00000000"},
		{api.Icmp{Rest: [4]byte{255, 255}}, "00000000 ffff0000"},
		{api.Icmp{Type: 3, Code: 4, Rest: [4]byte{0, 0, 5, 220}}, "0304f71f 000005dc"},
		{api.Icmp{Type: 11, Body: []byte{0x45}}, "0b00afff 00000000 45"},
		{api.Icmp{Type: 8, Rest: [4]byte{1, 2, 3, 4}, Body: []byte("abc")}, "08002f97 01020304 616263"},
		{api.Icmp{Type: 255, Code: 255, Rest: [4]byte{255, 255, 255, 255}}, "ffff0000 ffffffff"},
	} {
		if got := Bytes(x.m); !bytes.Equal(got, raw(x.want)) {
			t.Errorf("Bytes(%v) = %x", x.m, got)
		}
	}
	for _, m := range messages() {
		if got := Bytes(m); !bytes.Equal(got, spelt(m)) {
			t.Errorf("Bytes(%v): %d bytes, %x", m, len(got), got[:min(len(got), 20)])
		}
	}
	for n := range 65536 { // each checksum that there is
		m := api.Icmp{Type: byte(n >> 8), Code: byte(n)}
		if got := Bytes(m); !bytes.Equal(got, spelt(m)) {
			t.Fatalf("Bytes(%v) = %x", m, got)
		}
	}
}

func TestOf(t *testing.T) {
	for _, x := range []struct {
		bytes string
		want  api.Icmp
	}{
		{"0800f7fe 00000001", api.Icmp{Type: 8, Rest: [4]byte{0, 0, 0, 1}}},
		{"0304f71f 000005dc", api.Icmp{Type: 3, Code: 4, Rest: [4]byte{0, 0, 5, 220}}},
		{"08002f97 01020304 616263", api.Icmp{Type: 8, Rest: [4]byte{1, 2, 3, 4}, Body: []byte("abc")}},
		{"0b00afff 00000000 45", api.Icmp{Type: 11, Body: []byte{0x45}}},
		{"0000ffff 00000000", api.Icmp{}},
		// A checksum of 0 may stand there as 65535, too.
		{"00000000 ffff0000", api.Icmp{Rest: [4]byte{255, 255}}},
		{"0000ffff ffff0000", api.Icmp{Rest: [4]byte{255, 255}}},
		{"0000ffff 00000000 00", api.Icmp{Body: []byte{0}}},
	} {
		m, e := Of(raw(x.bytes))
		if e != api.OK || !alike(m, x.want) {
			t.Errorf("Of(%s) = %v, %v", x.bytes, m, e)
		}
	}
}

func TestOfRefuses(t *testing.T) {
	for _, s := range []string{
		"", "00", "ffff", "0800f7ff", "0000ffff0000", // the last three are good, and too short
		"ffff0000000000", "0800f7ff000000", "00010200fdfe00", // 7 bytes, all of them good
		"00000000 00000000", "00000000 00000000 00", "0800f7ff 00000001", "0800f7fd 00000001", "08000000 00000001", "0800fef7 00000001",
		// An odd last byte is the higher one of its word: as the lower one it would be good here.
		"0b00f4ba 00000000 45", "0000fffe 00000000 01",
	} {
		if m, e := Of(raw(s)); e != api.ErrBytes || !zero(m) {
			t.Errorf("Of(%s) = %v, %v", s, m, e)
		}
	}
	for _, m := range messages()[:30] {
		b := spelt(m)
		for n := range b { // cut short
			if got, e := Of(b[:n]); (e == api.OK) != right(b[:n]) || e != api.OK && !zero(got) {
				t.Errorf("Of(%x) = %v, %v", b[:n], got, e)
			}
		}
		for bit := range 8 * len(b) { // one bit is another one
			b[bit/8] ^= 1 << (bit % 8)
			if got, e := Of(b); e != api.ErrBytes || !zero(got) {
				t.Errorf("Of(%x) = %v, %v", b, got, e)
			}
			b[bit/8] ^= 1 << (bit % 8)
		}
	}
	for check := range 65536 { // each checksum but the one is none of it
		b := []byte{8, 0, byte(check / 256), byte(check % 256), 1, 2, 3, 4, 5}
		if m, e := Of(b); (e == api.OK) != right(b) || e != api.OK && (e != api.ErrBytes || !zero(m)) {
			t.Fatalf("Of(%x) = %v, %v", b, m, e)
		}
	}
}

func TestIsError(t *testing.T) {
	for n := range 256 {
		for _, m := range messages()[:40] {
			m.Type = byte(n)
			if IsError(m) != isError(byte(n)) {
				t.Fatalf("IsError(%v)", m)
			}
		}
	}
}

func TestSame(t *testing.T) {
	one := api.Icmp{Type: 1, Code: 2, Rest: [4]byte{3, 4, 5, 6}, Body: []byte{7, 8, 9}}
	l := []api.Icmp{one}
	change := func(f func(m *api.Icmp)) {
		m := one
		m.Body = slices.Clone(one.Body)
		f(&m)
		l = append(l, m)
	}
	change(func(m *api.Icmp) { m.Type++ })
	change(func(m *api.Icmp) { m.Code++ })
	change(func(m *api.Icmp) { m.Type, m.Code = m.Code, m.Type })
	for i := range 4 {
		change(func(m *api.Icmp) { m.Rest[i] += 9 })
	}
	for i := range 3 {
		change(func(m *api.Icmp) { m.Body[i]++ })
	}
	change(func(m *api.Icmp) { m.Body = m.Body[:2] })
	change(func(m *api.Icmp) { m.Body = append(m.Body, 0) })
	change(func(m *api.Icmp) { m.Body = nil })
	for i, a := range l {
		for j, b := range l {
			if Same(a, b) != (i == j) {
				t.Error(i, j)
			}
		}
	}
	twin := one
	twin.Body = slices.Clone(one.Body)
	if !Same(one, twin) || !Same(api.Icmp{}, api.Icmp{Body: []byte{}}) || !Same(api.Icmp{Body: make([]byte, 0, 9)}, api.Icmp{}) {
		t.Error("the same ones: not")
	}
}

func TestMessagesShareNothing(t *testing.T) {
	m := api.Icmp{Type: 8, Body: []byte{1, 2, 3}}
	b := Bytes(m)
	kept := slices.Clone(b)
	m.Body[0] = 77
	if !bytes.Equal(b, kept) {
		t.Error("Bytes shares with what it was handed: ", b)
	}
	got, _ := Of(b)
	_ = append(got.Body, 9, 9, 9)
	got.Body[0], got.Rest[0] = 99, 99
	if !bytes.Equal(b, kept) {
		t.Error("Of shares: ", b)
	}
	got, _ = Of(b)
	clear(b)
	if !bytes.Equal(got.Body, []byte{1, 2, 3}) {
		t.Error("Of keeps what it was handed: ", got)
	}
}

// P4.2

// judged are packets that are not wrong, and whether they may be answered by an error.
func judged() []struct {
	h       api.Header
	payload []byte
	may     bool
} {
	type one = struct {
		h       api.Header
		payload []byte
		may     bool
	}
	eight := []byte{8, 0, 0, 0, 0, 0, 0, 0}
	l := []one{
		{api.Header{Src: 1}, nil, true},
		{api.Header{Src: 1, Dst: 2, Proto: 17}, []byte{3}, true},
		{api.Header{TOS: 255, ID: 65535, Evil: true, DF: true, TTL: 255, Proto: 255, Src: 9, Dst: 8}, nil, true},
		// A piece: the first one alone.
		{api.Header{Src: 1, Dst: 2, MF: true}, eight, true}, {api.Header{Src: 1, Dst: 2, MF: true, Proto: 1}, eight, true},
		{api.Header{Src: 1, Dst: 2, Offset: 1}, eight, false}, {api.Header{Src: 1, Dst: 2, Offset: 1, MF: true}, eight, false},
		{api.Header{Src: 1, Dst: 2, Offset: 4096}, eight, false}, {api.Header{Src: 1, Dst: 2, Offset: 8191, Proto: 17}, eight, false},
		{api.Header{Src: 1, Dst: 2, Offset: 1, Proto: 1}, eight, false},
		// An error is one by its Type, though it was cut and its checksum isn't good.
		{api.Header{Src: 1, Dst: 2, MF: true, Proto: 1}, []byte{3, 0, 0, 0, 0, 0, 0, 0}, false},
	}
	for addr, bad := range map[api.Addr]bool{0: false, 1: false, 0x7fffffff: false, 0xdfffffff: false, 0xe0000000: true, 0xe0000001: true, 0xefffffff: true, 0xf0000000: true, 0xfffffffe: true, 0xffffffff: true} {
		l = append(l, one{api.Header{Src: 1, Dst: addr}, eight, !bad}, one{api.Header{Src: addr, Dst: 2}, eight, !bad && addr != 0}, one{api.Header{Src: addr, Dst: addr, Proto: 1}, eight, !bad && addr != 0})
	}
	for size := range 12 { // of Proto 1, and of those beside it
		l = append(l, one{api.Header{Src: 1, Dst: 2, Proto: 1}, append([]byte{8}, make([]byte, 11)...)[:size], size >= 8})
		l = append(l, one{api.Header{Src: 1, Dst: 2}, make([]byte, size), true}, one{api.Header{Src: 1, Dst: 2, Proto: 2}, bytes.Repeat([]byte{3}, size), true})
	}
	for kind := range 256 { // of each Type, also where the checksum isn't good, and where another protocol has such bytes
		right := spelt(api.Icmp{Type: byte(kind), Code: byte(kind * 7), Body: varied(kind%5, 1)})
		broken := slices.Clone(right)
		broken[3]++
		for _, payload := range [][]byte{right, broken} {
			l = append(l, one{api.Header{Src: 1, Dst: 2, Proto: 1}, payload, !isError(byte(kind))}, one{api.Header{Src: 1, Dst: 2, Proto: 17}, payload, true})
		}
	}
	return l
}

func TestMay(t *testing.T) {
	for _, x := range judged() {
		for _, o := range options() {
			x.h.Options = o
			for _, behind := range [][]byte{nil, {3}, make([]byte, 9)} {
				b := append(packet(t, x.h, x.payload), behind...)
				kept := slices.Clone(b)
				if May(b) != x.may {
					t.Errorf("May(%+v, %x, %d behind), want %v", x.h, x.payload, len(behind), x.may)
				}
				if !bytes.Equal(b, kept) {
					t.Error("what is handed in was changed")
				}
			}
		}
	}
	for i, b := range wrongPackets(t) {
		if May(b) {
			t.Error("a packet that is wrong: ", i)
		}
	}
}

func TestQuote(t *testing.T) {
	for i, x := range []struct{ packet, want string }{
		{"45000014 00000000 0901b1e7 00000001 00000002", "45000014 00000000 0901b1e7 00000001 00000002"},
		{"4600001b 00000000 01002ce1 00000000 00000000 83030900 010203 0909", "4600001b 00000000 01002ce1 00000000 00000000 83030900 010203"},
		// As it came: a checksum of 0 that stands there as 65535 stays so.
		{"45000014 baeb0000 0000ffff 00000000 00000000", "45000014 baeb0000 0000ffff 00000000 00000000"},
		{"45000014 baeb0000 00000000 00000000 00000000 08", "45000014 baeb0000 00000000 00000000 00000000"},
	} {
		if got, e := Quote(raw(x.packet)); e != api.OK || !bytes.Equal(got, raw(x.want)) {
			t.Errorf("%d: %x, %v", i, got, e)
		}
	}
	for _, o := range options() {
		for _, size := range []int{0, 1, 6, 7, 8, 9, 10, 100, 65535 - 20 - len(o)} {
			for _, behind := range []int{0, 1, 8, 100} {
				h := api.Header{TOS: 7, ID: 300, Evil: true, MF: true, Offset: 9, TTL: 3, Proto: 1, Src: 0xe0000001, Dst: 0xffffffff, Options: o}
				b := append(packet(t, h, varied(size, 4)), varied(behind, 6)...)
				kept := slices.Clone(b)
				got, e := Quote(b)
				if e != api.OK || !bytes.Equal(got, b[:20+len(o)+min(size, 8)]) {
					t.Errorf("%d bytes of options, %d of payload, %d behind: %x, %v", len(o), size, behind, got, e)
				}
				_ = append(got, 1, 2, 3)
				got[0] ^= 255
				if !bytes.Equal(b, kept) {
					t.Error("a quote shares with the packet")
				}
			}
		}
	}
	for i, b := range wrongPackets(t) {
		if q, e := Quote(b); q != nil || e != api.ErrBytes {
			t.Error("a packet that is wrong: ", i, q, e)
		}
	}
}

func TestErrorBytes(t *testing.T) {
	p := raw("4600001b 00000000 011117ce 0a000001 0a000101 83030900 010203 77")
	for _, x := range []struct {
		k    api.IcmpError
		mtu  int
		from api.Addr
		want string
	}{
		{api.IcmpNet, 0, 0x0a000002, "45000037 00000000 400166c4 0a000002 0a000001 0300f8fd 00000000"},
		{api.IcmpFrag, 1500, 0x0a000002, "45000037 00000000 400166c4 0a000002 0a000001 0304f31d 000005dc"},
		{api.IcmpTime, 0, 0xffffffff, "45000037 00000000 400170c6 ffffffff 0a000001 0b00f0fd 00000000"},
	} {
		got, e := Error(x.k, p, x.from, x.mtu)
		if want := raw(x.want + "4600001b 00000000 011117ce 0a000001 0a000101 83030900 010203"); e != api.OK || !bytes.Equal(got, want) {
			t.Errorf("Error(%d) = %x, %v", x.k, got, e)
		}
	}
}

func TestError(t *testing.T) {
	kinds := map[api.IcmpError]struct {
		m    api.Icmp
		mtus []int
	}{
		api.IcmpNet:  {api.Icmp{Type: 3}, []int{0}},
		api.IcmpFrag: {api.Icmp{Type: 3, Code: 4}, []int{0, 1, 68, 255, 256, 600, 1500, 65534, 65535}},
		api.IcmpTime: {api.Icmp{Type: 11}, []int{0}},
	}
	for k, x := range kinds {
		for _, mtu := range x.mtus {
			for _, o := range options() {
				for _, size := range []int{0, 3, 7, 8, 9, 64, 65535 - 20 - len(o)} {
					h := api.Header{TOS: 7, ID: 300, Evil: true, DF: true, MF: true, TTL: 3, Proto: 17, Src: 0x0a000001, Dst: 0x0a000101, Options: o}
					p := append(packet(t, h, varied(size, 4)), 5, 6, 7)
					kept := slices.Clone(p)
					from := api.Addr(size * 70001)
					b, e := Error(k, p, from, mtu)
					if e != api.OK || !bytes.Equal(p, kept) {
						t.Fatal(k, mtu, len(o), size, e)
					}
					got, m := read(t, b)
					if !ip.Same(got, api.Header{TTL: 64, Proto: 1, Src: from, Dst: h.Src}) {
						t.Error("header: ", k, mtu, got)
					}
					want := x.m
					want.Rest[2], want.Rest[3] = byte(mtu/256), byte(mtu%256)
					want.Body = p[:20+len(o)+min(size, 8)]
					if !alike(m, want) {
						t.Error("message: ", k, mtu, m, want)
					}
					clear(p)
					if _, again := read(t, b); !alike(m, again) {
						t.Error("it shares with what it was handed")
					}
				}
			}
		}
	}
}

func TestErrorOfWhatMayBeAnswered(t *testing.T) {
	for _, x := range judged() {
		p := packet(t, x.h, x.payload)
		for k := api.IcmpNet; k <= api.IcmpTime; k++ {
			b, e := Error(k, p, 7, 0)
			switch {
			case !x.may:
				if b != nil || e != api.ErrState {
					t.Errorf("Error(%d, %+v, %x) = %x, %v", k, x.h, x.payload, b, e)
				}
			case e != api.OK:
				t.Errorf("Error(%d, %+v, %x): %v", k, x.h, x.payload, e)
			default:
				if h, m := read(t, b); h.Dst != x.h.Src || h.Src != 7 || !bytes.Equal(m.Body, p[:20+min(len(x.payload), 8)]) {
					t.Error(k, h, m)
				}
			}
		}
	}
}

// TestErrorTellsTheFirst: an argument that is none comes ahead of a packet that is wrong, and that ahead of one that may not be answered.
func TestErrorTellsTheFirst(t *testing.T) {
	good := packet(t, api.Header{Src: 1, Dst: 2, Proto: 17}, []byte{1})
	never := packet(t, api.Header{Src: 1, Dst: 2, Proto: 1}, spelt(api.Icmp{Type: 11}))
	wrong := wrongPackets(t)
	all := append([][]byte{good, never}, wrong...)
	for _, x := range []struct{ k, mtu int }{
		{0, 0}, {-1, 0}, {4, 0}, {5, 0}, {257, 0}, {258, 1500}, {1 + 1<<32, 0}, {math.MinInt, 0}, {math.MaxInt, 0}, {0, 68}, {4, -1}, {0, 65536},
		{1, 1}, {1, 68}, {1, 1500}, {1, 65535}, {1, 65536}, {1, -1}, {1, 1 << 32}, {3, 1}, {3, 68}, {3, 65535}, {3, 65536}, {3, -1}, {3, math.MinInt},
		{2, -1}, {2, 65536}, {2, 65537}, {2, 65536 + 1500}, {2, 1 << 32}, {2, math.MinInt}, {2, math.MaxInt}, {2, -65536},
	} {
		for i, p := range all {
			if b, e := Error(api.IcmpError(x.k), p, 7, x.mtu); b != nil || e != api.ErrArg {
				t.Error("argument: ", x, i, b, e)
			}
		}
	}
	for _, x := range []struct{ k, mtu int }{{1, 0}, {2, 0}, {2, 65535}, {3, 0}} {
		for i, p := range wrong {
			if b, e := Error(api.IcmpError(x.k), p, 7, x.mtu); b != nil || e != api.ErrBytes {
				t.Error("wrong: ", x, i, b, e)
			}
		}
		if b, e := Error(api.IcmpError(x.k), never, 7, x.mtu); b != nil || e != api.ErrState {
			t.Error("never: ", x, b, e)
		}
		if b, e := Error(api.IcmpError(x.k), good, 7, x.mtu); b == nil || e != api.OK {
			t.Error("good: ", x, b, e)
		}
	}
}

// P4.3

func TestReplyBytes(t *testing.T) {
	for _, x := range []struct{ packet, want string }{
		{"4500001f 004d4000 0501618f 0a000001 0a000002 08002f97 01020304 616263", "4500001f 004d4000 4001268f 0a000002 0a000001 00003797 01020304 616263"},
		{"47030024 00010000 00012abe 00000009 0000000a 01010101 83030900 0800f7fe 00000001 0809", "4503001c 00010000 40017acb 0000000a 00000009 0000fffe 00000001"},
	} {
		b, e := Reply(raw(x.packet))
		if !Echo(raw(x.packet)) || e != api.OK || !bytes.Equal(b, raw(x.want)) {
			t.Errorf("Reply(%s) = %x, %v", x.packet, b, e)
		}
	}
}

func TestReply(t *testing.T) {
	for i, o := range options() {
		for flags := range 4 {
			for _, size := range []int{0, 1, 2, 3, 56, 1000, 65535 - 28 - len(o)} {
				h := api.Header{TOS: byte(i * 40), ID: uint16(size + 1), Evil: flags&1 != 0, DF: flags&2 != 0, TTL: byte(size), Proto: 1, Src: api.Addr(i), Dst: 0xffffffff - api.Addr(i), Options: o}
				m := api.Icmp{Type: 8, Rest: [4]byte(varied(4, uint32(size))), Body: varied(size, uint32(i))}
				p := append(packet(t, h, spelt(m)), varied(flags, 2)...)
				kept := slices.Clone(p)
				b, e := Reply(p)
				if !Echo(p) || e != api.OK || !bytes.Equal(p, kept) {
					t.Fatal(h, size, e)
				}
				clear(p)
				got, answer := read(t, b)
				if !ip.Same(got, api.Header{TOS: h.TOS, ID: h.ID, DF: h.DF, TTL: 64, Proto: 1, Src: h.Dst, Dst: h.Src}) {
					t.Error("header: ", h, got)
				}
				m.Type = 0
				if !alike(answer, m) {
					t.Error("message: ", h, size)
				}
			}
		}
	}
}

func TestNoEcho(t *testing.T) {
	h := api.Header{TTL: 9, Proto: 1, Src: 1, Dst: 2}
	m := api.Icmp{Type: 8, Rest: [4]byte{1, 2, 3, 4}, Body: []byte("abcdefghi")}
	refused := func(what string, h api.Header, payload []byte) {
		t.Helper()
		p := packet(t, h, payload)
		if b, e := Reply(p); Echo(p) || b != nil || e != api.ErrState {
			t.Error(what, b, e)
		}
	}
	for kind := range 256 {
		for _, code := range []byte{0, 1, 8, 255} {
			if n := m; kind != 8 || code != 0 {
				n.Type, n.Code = byte(kind), code
				refused("another message", h, spelt(n))
			}
		}
		if k := h; kind != 1 {
			k.Proto = byte(kind)
			refused("another protocol", k, spelt(m))
		}
	}
	for _, x := range []struct {
		mf     bool
		offset int
	}{{true, 0}, {false, 1}, {true, 1}, {false, 4096}, {false, 8191}} {
		k := h
		k.MF, k.Offset = x.mf, x.offset
		refused("a fragment", k, spelt(m))
	}
	b := spelt(m)
	for bit := range 8 * len(b) {
		b[bit/8] ^= 1 << (bit % 8)
		refused("a message that is wrong", h, b)
		b[bit/8] ^= 1 << (bit % 8)
	}
	for n := range 8 {
		refused("no message", h, b[:n])
	}
	refused("7 good bytes", h, raw("0800f7ff000000"))
	for i, p := range wrongPackets(t) {
		if b, e := Reply(p); Echo(p) || b != nil || e != api.ErrBytes {
			t.Error("a packet that is wrong: ", i, b, e)
		}
	}
}

// TestEchoBehindTheTotalLength: what stands there is none of the message.
func TestEchoBehindTheTotalLength(t *testing.T) {
	b := spelt(api.Icmp{Type: 8, Body: []byte{1, 2, 3, 4}})
	cut := packet(t, api.Header{Proto: 1, Src: 1, Dst: 2}, b[:10])
	if p := append(cut, b[10:]...); Echo(p) {
		t.Error("a message that ends behind its packet")
	}
	short := packet(t, api.Header{Proto: 1, Src: 1, Dst: 2}, b[:7])
	if May(append(short, b[7:]...)) {
		t.Error("7 bytes, and others behind")
	}
}

// P4.4

func TestOfOfBytesIsTheMessage(t *testing.T) {
	for _, m := range messages() {
		if got, e := Of(Bytes(m)); e != api.OK || !alike(got, m) || !Same(got, m) {
			t.Errorf("%v: %v, %v", m, got, e)
		}
	}
	for n := range 65536 {
		m := api.Icmp{Type: byte(n), Code: byte(n >> 8), Rest: [4]byte{byte(n * 3), byte(n >> 5)}, Body: varied(n%5, uint32(n))}
		if got, e := Of(Bytes(m)); e != api.OK || !alike(got, m) {
			t.Fatalf("%v: %v, %v", m, got, e)
		}
	}
}

// answers are what a packet is answered by, in each way that there is.
func answers(p []byte) (errors, replies [][]byte) {
	for k := api.IcmpNet; k <= api.IcmpTime; k++ {
		if b, e := Error(k, p, 0x0a000009, 0); e == api.OK {
			errors = append(errors, b)
		}
	}
	if b, e := Error(api.IcmpFrag, p, 0x0a000009, 1500); e == api.OK {
		errors = append(errors, b)
	}
	if b, e := Reply(p); e == api.OK {
		replies = append(replies, b)
	}
	return errors, replies
}

func TestNoErrorIsAnswered(t *testing.T) {
	many := 0
	for _, x := range judged() {
		for _, o := range options() {
			x.h.Options = o
			errors, replies := answers(packet(t, x.h, x.payload))
			for _, b := range slices.Concat(errors, replies) {
				many++
				read(t, b)
			}
			for _, b := range errors {
				if l, r := answers(b); l != nil || r != nil || May(b) || Echo(b) {
					t.Fatalf("an error is answered: %x", b)
				}
				h, payload, _ := ip.Parse(b) // nor is the first piece of one that was cut
				h.MF = true
				if l, r := answers(packet(t, h, payload[:24])); l != nil || r != nil {
					t.Fatalf("an error's piece is answered: %x", b)
				}
			}
			for _, b := range replies {
				if _, r := answers(b); r != nil || Echo(b) {
					t.Fatalf("a reply is replied to: %x", b)
				}
			}
		}
	}
	if many == 0 {
		t.Error("nothing was answered")
	}
	for kind := range 256 { // whatever else an error says
		if !isError(byte(kind)) {
			continue
		}
		for code := range 256 {
			m := api.Icmp{Type: byte(kind), Code: byte(code), Rest: [4]byte{1, 2, 3, 4}, Body: varied(code%40, 1)}
			if l, r := answers(packet(t, api.Header{TTL: 1, Proto: 1, Src: 1, Dst: 2}, spelt(m))); l != nil || r != nil {
				t.Fatal("an error is answered: ", m)
			}
		}
	}
}

// TestWhateverComesIn: no bytes make a call panic, and what comes of them is right.
func TestWhateverComesIn(t *testing.T) {
	good := packet(t, api.Header{TTL: 9, Proto: 1, Src: 1, Dst: 2, Options: []byte{131, 3, 9, 0}}, spelt(api.Icmp{Type: 8, Body: []byte{1, 2, 3}}))
	for seed := range uint32(40000) {
		b := varied(int(seed%90), seed)
		if seed%2 == 0 { // one byte of a good one is another one
			b = slices.Clone(good)
			b[int(seed/2)%len(b)] = byte(seed / 100)
		}
		kept := slices.Clone(b)
		h, payload, f := ip.Parse(b)
		echo := f == 0 && h.Proto == 1 && !h.MF && h.Offset == 0 && right(payload) && payload[0] == 8 && payload[1] == 0
		if m, e := Of(b); (e == api.OK) != right(b) || e == api.OK && !bytes.Equal(m.Body, b[8:]) {
			t.Fatalf("Of(%x) = %v, %v", b, m, e)
		}
		if q, e := Quote(b); (e == api.OK) != (f == 0) || !bytes.HasPrefix(b, q) || May(b) && f != 0 {
			t.Fatalf("Quote(%x) = %x, %v", b, q, e)
		}
		errors, replies := answers(b)
		if (len(errors) == 4) != May(b) || (len(errors) == 0) == May(b) || Echo(b) != echo || (len(replies) == 1) != echo {
			t.Fatalf("%x: May %v, Echo %v, %d errors, %d replies", b, May(b), Echo(b), len(errors), len(replies))
		}
		for _, x := range slices.Concat(errors, replies) {
			read(t, x)
		}
		if !bytes.Equal(b, kept) {
			t.Fatalf("what is handed in was changed: %x", kept)
		}
	}
}
