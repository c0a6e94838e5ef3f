package ip

import (
	"bytes"
	"encoding/hex"
	"math"
	"slices"
	"strings"
	"testing"

	"guidepost/api"
	"guidepost/sum"
)

// raw are the bytes that hexadecimal digits tell; blanks between them are none.
func raw(s string) []byte {
	b, err := hex.DecodeString(strings.ReplaceAll(s, " ", ""))
	if err != nil {
		panic(err)
	}
	return b
}

// checksum is that of bytes of an even number, worked out in another way than the program's: as a number modulo 65535.
func checksum(b []byte) uint16 {
	n := 0
	for i := 0; i < len(b); i += 2 {
		n += int(b[i])*256 + int(b[i+1])
	}
	if n == 0 {
		return 65535
	}
	return uint16(65535 - ((n-1)%65535 + 1))
}

// sealed is a copy of b, with the checksum of its first size bytes in its place.
func sealed(b []byte, size int) []byte {
	b = slices.Clone(b)
	b[10], b[11] = 0, 0
	c := checksum(b[:size])
	b[10], b[11] = byte(c>>8), byte(c)
	return b
}

// written are a packet's bytes, worked out in another way than the program's.
func written(h api.Header, payload []byte) []byte {
	n := h.Offset
	for _, x := range []struct {
		set bool
		bit int
	}{{h.Evil, 32768}, {h.DF, 16384}, {h.MF, 8192}} {
		if x.set {
			n += x.bit
		}
	}
	size := 20 + len(h.Options)
	total := size + len(payload)
	b := []byte{
		byte(64 + size/4), h.TOS, byte(total / 256), byte(total % 256),
		byte(h.ID / 256), byte(h.ID % 256), byte(n / 256), byte(n % 256),
		h.TTL, h.Proto, 0, 0,
		byte(h.Src >> 24), byte(h.Src >> 16), byte(h.Src >> 8), byte(h.Src),
		byte(h.Dst >> 24), byte(h.Dst >> 16), byte(h.Dst >> 8), byte(h.Dst),
	}
	return append(sealed(append(b, h.Options...), size), payload...)
}

// same asks each field by itself, as a struct of values without lists can be compared.
func same(a, b api.Header) bool {
	type fields struct {
		tos, ttl, proto byte
		id              uint16
		evil, df, mf    bool
		offset          int
		src, dst        api.Addr
		options         string
	}
	all := func(h api.Header) fields {
		return fields{h.TOS, h.TTL, h.Proto, h.ID, h.Evil, h.DF, h.MF, h.Offset, h.Src, h.Dst, string(h.Options)}
	}
	return all(a) == all(b)
}

func zero(h api.Header) bool { return h.Options == nil && same(h, api.Header{}) }

// filled are bytes that look like no other's: the same ones for each seed.
func filled(size int, seed uint32) []byte {
	b := make([]byte, size)
	for i := range b {
		seed = seed*1664525 + 1013904223
		b[i] = byte(seed >> 24)
	}
	return b
}

// full is 40 bytes of options: three, one of which is a source route, and no operation between.
func full() []byte {
	l := []byte{131, 11, 4, 10, 0, 0, 1, 10, 0, 0, 2, 1, 7, 19, 4}
	l = append(l, make([]byte, 16)...)
	return append(l, 148, 4, 0, 0, 1, 1, 1, 1, 0)
}

// headers are headers that may be.
func headers() []api.Header {
	l := []api.Header{
		{},
		{TTL: 9, Proto: 1, Src: 1, Dst: 2},
		{TOS: 255, ID: 65535, Evil: true, DF: true, MF: true, Offset: 8191, TTL: 255, Proto: 255, Src: math.MaxUint32, Dst: math.MaxUint32},
		{TOS: 4, ID: 258, DF: true, Offset: 5, TTL: 1, Proto: 17, Src: 0x0a000001, Dst: 0x0a000102, Options: []byte{131, 3, 9, 0}},
		{TTL: 64, Proto: 6, Src: 0xc0a80001, Dst: 0xe0000001, Options: full()},
		{TTL: 2, Options: bytes.Repeat([]byte{1}, 40)},
		{TTL: 2, Options: make([]byte, 40)},
		{TTL: 2, Options: []byte{0, 7, 99, 137}},
		{TTL: 2, Options: append([]byte{68, 40}, filled(38, 3)...)},
		{TTL: 3, Options: []byte{7, 2, 130, 2}},
		{Evil: true}, {DF: true}, {MF: true}, {Offset: 1}, {Offset: 8191}, {Offset: 4096, MF: true},
	}
	for size := 0; size <= 40; size += 4 { // source routes without data, the end behind them
		options := append(bytes.Repeat([]byte{137, 2}, size/4), make([]byte, size/2)...)
		l = append(l, api.Header{ID: uint16(size), TTL: byte(size), Proto: 17, Src: 0x0a010203, Dst: 0x0a040506, Options: options})
	}
	return l
}

// wrongHeaders are headers that may not be.
func wrongHeaders() []api.Header {
	l := []api.Header{
		{Offset: -1}, {Offset: 8192}, {Offset: 65535}, {Offset: math.MinInt}, {Offset: math.MaxInt}, {Offset: 1 << 32}, {Offset: 1 << 16},
		{Options: make([]byte, 44)}, {Options: bytes.Repeat([]byte{1}, 44)}, {Options: make([]byte, 300)}, {Options: make([]byte, 1<<20)},
		{Options: append(full(), 0, 0, 0, 0)}, {Offset: -1, Options: []byte{1}}, {Offset: 8192, Options: full()},
		{Options: []byte{7, 5, 0, 0}}, {Options: []byte{7, 255, 0, 0}}, {Options: []byte{7, 0, 0, 0}}, {Options: []byte{7, 1, 0, 0}},
		{Options: []byte{1, 1, 1, 7}}, {Options: []byte{131, 3, 9, 131}}, {Options: []byte{7, 2, 7, 3}}, {Options: append(bytes.Repeat([]byte{1}, 38), 7, 3)},
	}
	for n := range 45 { // not a multiple of 4, or too many
		if n%4 != 0 || n > 40 {
			l = append(l, api.Header{Options: make([]byte, n)})
		}
	}
	return l
}

// parts is what options are, worked out in another way than the program's: from their end to their front.
func parts(b []byte) ([]api.Option, bool) {
	switch {
	case len(b) == 0 || b[0] == 0:
		return nil, true
	case b[0] == 1:
		return parts(b[1:])
	case len(b) == 1 || b[1] < 2 || int(b[1]) > len(b):
		return nil, false
	}
	behind, good := parts(b[b[1]:])
	if !good {
		return nil, false
	}
	return slices.Concat([]api.Option{{Kind: b[0], Data: b[2:b[1]]}}, behind), true
}

// wrong is what is wrong with a packet's bytes, worked out in another way than the program's.
func wrong(b []byte) api.HdrFault {
	if len(b) < 20 {
		return api.HdrShort
	}
	if b[0] < 0x40 || b[0] > 0x4f {
		return api.HdrVersion
	}
	size, total := int(b[0]-0x40)*4, int(b[2])*256+int(b[3])
	if size < 20 || size > len(b) {
		return api.HdrLength
	}
	if total < size || total > len(b) {
		return api.HdrTotal
	}
	n := 0
	for i := range size {
		n += int(b[i]) << (8 * (1 - i%2))
	}
	if n == 0 || n%65535 != 0 {
		return api.HdrSum
	}
	if _, good := parts(b[20:size]); !good {
		return api.HdrOptions
	}
	return 0
}

func sameOptions(a, b []api.Option) bool {
	return slices.EqualFunc(a, b, func(x, y api.Option) bool { return x.Kind == y.Kind && bytes.Equal(x.Data, y.Data) })
}

// P3.1

func TestBytes(t *testing.T) {
	for _, x := range []struct {
		h       api.Header
		payload []byte
		want    string
	}{
		{api.Header{}, nil, "45000014 00000000 0000baeb 00000000 00000000"},
		{api.Header{TTL: 9, Proto: 1, Src: 1, Dst: 2}, nil, "45000014 00000000 0901b1e7 00000001 00000002"},
		{api.Header{DF: true, TTL: 64, Proto: 17, Src: 0xc0a80001, Dst: 0xc0a800c7}, make([]byte, 95), "45000073 00004000 4011b861 c0a80001 c0a800c7" + strings.Repeat("00", 95)},
		{api.Header{Evil: true}, nil, "45000014 00008000 00003aeb 00000000 00000000"},
		{api.Header{DF: true}, nil, "45000014 00004000 00007aeb 00000000 00000000"},
		{api.Header{MF: true}, nil, "45000014 00002000 00009aeb 00000000 00000000"},
		{api.Header{Offset: 1}, nil, "45000014 00000001 0000baea 00000000 00000000"},
		{api.Header{Offset: 8191}, nil, "45000014 00001fff 00009aec 00000000 00000000"},
		{api.Header{TOS: 1, ID: 0x0203}, []byte{7}, "45010015 02030000 0000b8e6 00000000 00000000 07"},
		{api.Header{TTL: 1, Options: []byte{131, 3, 9, 0}}, []byte{1, 2, 3}, "4600001b 00000000 01002ce1 00000000 00000000 83030900 010203"},
	} {
		got, e := Bytes(x.h, x.payload)
		if e != api.OK || !bytes.Equal(got, raw(x.want)) {
			t.Errorf("Bytes(%+v) = %x, %v", x.h, got, e)
		}
	}
	for i, h := range headers() {
		for _, size := range []int{0, 1, 2, 7, 8, 100, 1480} {
			payload := filled(size, uint32(i))
			if got, e := Bytes(h, payload); e != api.OK || !bytes.Equal(got, written(h, payload)) {
				t.Errorf("Bytes(%+v, %d bytes) = %x, %v", h, size, got, e)
			}
		}
	}
}

func TestBytesOfTheGreatestPacket(t *testing.T) {
	for _, options := range [][]byte{nil, make([]byte, 4), full()} {
		h := api.Header{TTL: 7, Proto: 9, Options: options}
		most := 65535 - 20 - len(options)
		payload := filled(most+1, 5)
		b, e := Bytes(h, payload[:most])
		if e != api.OK || len(b) != 65535 || !bytes.Equal(b, written(h, payload[:most])) {
			t.Error("65535 bytes: ", len(b), e)
		}
		if got, p, f := Parse(b); f != 0 || !same(got, h) || !bytes.Equal(p, payload[:most]) {
			t.Error("65535 bytes: ", got, len(p), f)
		}
		for _, n := range []int{most + 1, 65535, 65536, 65516 + 65536, 1 << 20} {
			if b, e := Bytes(h, make([]byte, n)); b != nil || e != api.ErrArg {
				t.Error("too many: ", n, len(b), e)
			}
		}
	}
}

func TestBytesRefuses(t *testing.T) {
	for i, h := range wrongHeaders() {
		for _, payload := range [][]byte{nil, {1, 2, 3}, make([]byte, 65536)} {
			if b, e := Bytes(h, payload); b != nil || e != api.ErrArg {
				t.Error(i, len(payload), len(b), e)
			}
		}
	}
}

func TestMayAndSize(t *testing.T) {
	for _, h := range headers() {
		if !May(h) || Size(h) != 20+len(h.Options) {
			t.Errorf("may be: %+v, %d", h, Size(h))
		}
	}
	for i, h := range wrongHeaders() {
		if May(h) || Size(h) != 0 {
			t.Error("may not be: ", i, h.Offset, len(h.Options), Size(h))
		}
	}
	for offset := -10; offset < 9000; offset++ {
		if May(api.Header{Offset: offset}) != (offset >= 0 && offset < 8192) {
			t.Fatal(offset)
		}
	}
	if Size(api.Header{}) != 20 || Size(api.Header{Options: full()}) != 60 {
		t.Error("Size")
	}
}

func TestParse(t *testing.T) {
	for _, x := range []struct {
		packet  string
		want    api.Header
		payload int
	}{
		{"45000014 00000000 0000baeb 00000000 00000000", api.Header{}, 0},
		{"45000017 0203dfff ff110e63 0a000001 c0a800c7 010203", api.Header{ID: 0x0203, Evil: true, DF: true, Offset: 8191, TTL: 255, Proto: 17, Src: 0x0a000001, Dst: 0xc0a800c7}, 3},
		{"45ff0014 ffff2001 010298e8 80000001 7fffffff", api.Header{TOS: 255, ID: 65535, MF: true, Offset: 1, TTL: 1, Proto: 2, Src: 0x80000001, Dst: 0x7fffffff}, 0},
		{"4600001b 00000000 01002ce1 00000000 00000000 83030900 010203", api.Header{TTL: 1, Options: []byte{131, 3, 9, 0}}, 3},
	} {
		b := raw(x.packet)
		payload := b[len(b)-x.payload:]
		for _, behind := range [][]byte{nil, {0}, {9, 9, 9}, bytes.Repeat([]byte{69}, 70000)} {
			h, p, f := Parse(slices.Concat(b, behind))
			if f != 0 || !same(h, x.want) || !bytes.Equal(p, payload) {
				t.Errorf("Parse(%x, %d behind) = %+v, %x, %d", b, len(behind), h, p, f)
			}
		}
	}
	// A header of 20 bytes alone, of 60, and of each size between; with all that its payload has, and with bytes behind it.
	for _, h := range headers() {
		for _, size := range []int{0, 1, 8, 33} {
			payload := filled(size, 9)
			for _, behind := range []int{0, 1, 40, 1000} {
				got, p, f := Parse(append(written(h, payload), filled(behind, 8)...))
				if f != 0 || !same(got, h) || !bytes.Equal(p, payload) {
					t.Errorf("%+v, %d, %d behind: %+v, %x, %d", h, size, behind, got, p, f)
				}
			}
		}
	}
}

func TestParseTellsEachFault(t *testing.T) {
	first := func(n byte, size int) []byte {
		b := make([]byte, size)
		if size > 0 {
			b[0] = n
		}
		return b
	}
	for _, x := range []struct {
		b    []byte
		want api.HdrFault
	}{
		{nil, api.HdrShort}, {[]byte{}, api.HdrShort}, {first(0, 19), api.HdrShort}, {first(69, 1), api.HdrShort}, {first(69, 19), api.HdrShort},
		{first(0, 20), api.HdrVersion}, {first(0x55, 20), api.HdrVersion}, {first(0x35, 20), api.HdrVersion}, {first(0x65, 60), api.HdrVersion}, {first(0xff, 20), api.HdrVersion}, {first(0x05, 20), api.HdrVersion},
		{first(68, 20), api.HdrLength}, {first(64, 100), api.HdrLength}, {first(70, 20), api.HdrLength}, {first(70, 23), api.HdrLength}, {first(79, 59), api.HdrLength}, {first(79, 20), api.HdrLength},
		{first(69, 20), api.HdrTotal}, {first(70, 24), api.HdrTotal}, {first(79, 60), api.HdrTotal},
		{raw("45000013 00000000 0000baec 00000000 00000000"), api.HdrTotal},
		{raw("45000015 00000000 0000baea 00000000 00000000"), api.HdrTotal},
		{raw("4500ffff 00000000 0000bb00 00000000 00000000"), api.HdrTotal},
		{raw("46000017 00000000 0000b9e8 00000000 00000000 00000000"), api.HdrTotal},
		{raw("45000014 00000000 0000baec 00000000 00000000"), api.HdrSum},
		{raw("45000014 00000000 00000000 00000000 00000000"), api.HdrSum},
		{raw("45000014 00000000 0000ebba 00000000 00000000"), api.HdrSum},
		// Its header alone must be good, not what stands behind: of these all bytes together are.
		{raw("45000016 00000000 00000000 00000000 00000000 bae9"), api.HdrSum},
		{sealed(raw("46000018 00000000 01020000 00000001 00000002 83050000"), 24), api.HdrOptions},
		{sealed(raw("46000018 00000000 01020000 00000001 00000002 83010000"), 24), api.HdrOptions},
		{sealed(raw("46000018 00000000 01020000 00000001 00000002 83000000"), 24), api.HdrOptions},
		{sealed(raw("46000018 00000000 01020000 00000001 00000002 01010107"), 24), api.HdrOptions},
		// It is not within the header, though it is within the packet.
		{sealed(raw("4600001c 00000000 01020000 00000001 00000002 07080000 00000000"), 24), api.HdrOptions},
		// These may be.
		{sealed(raw("46000018 00000000 01020000 00000001 00000002 07040000"), 24), 0},
		{sealed(raw("46000018 00000000 01020000 00000001 00000002 00ffffff"), 24), 0},
		{sealed(raw("46000018 00000000 01020000 00000001 00000002 01010100"), 24), 0},
	} {
		h, p, f := Parse(x.b)
		if f != x.want || f != wrong(x.b) {
			t.Errorf("Parse(%x): %d, want %d", x.b, f, x.want)
		}
		if f != 0 && (!zero(h) || p != nil) {
			t.Errorf("Parse(%x): beside a fault %+v, %x", x.b, h, p)
		}
	}
}

// TestParseTellsTheFirstFault: of all choices of faults, each of two ways, the first one is told.
func TestParseTellsTheFirstFault(t *testing.T) {
	good := written(api.Header{TTL: 9, Proto: 1, Src: 1, Dst: 2, Options: []byte{7, 4, 1, 1, 131, 3, 9, 0}}, []byte{1, 2, 3, 4})
	for faults := range 1 << 6 {
		for way := range 2 {
			b := slices.Clone(good)
			want := api.HdrFault(0)
			set := func(f api.HdrFault, at int, to ...byte) {
				if faults>>(f-1)&1 == 1 {
					b[at] = to[way]
					if want == 0 || f < want {
						want = f
					}
				}
			}
			set(api.HdrOptions, 25, 5, 1)
			set(api.HdrTotal, 3, 27, 33)
			b = sealed(b, 28)
			set(api.HdrLength, 0, 0x44, 0x4f)
			set(api.HdrVersion, 0, 0x50|b[0]&15, 0x30|b[0]&15)
			set(api.HdrSum, 10, b[10]^1, b[10]+128)
			if faults>>(api.HdrShort-1)&1 == 1 {
				b, want = b[:19*way], api.HdrShort
			}
			h, p, f := Parse(b)
			if f != want {
				t.Errorf("faults %b, way %d: %d, want %d (%x)", faults, way, f, want, b)
			}
			if f != 0 && (!zero(h) || p != nil) {
				t.Errorf("faults %b, way %d: beside a fault %+v, %x", faults, way, h, p)
			}
		}
	}
}

func TestParseOfChangedBytes(t *testing.T) {
	for _, h := range []api.Header{headers()[1], headers()[3], headers()[4]} {
		b := append(written(h, []byte{1, 2, 3}), 0, 0)
		size := 20 + len(h.Options)
		for at := range size {
			for to := range 256 {
				changed := slices.Clone(b)
				changed[at] = byte(to)
				plain := sealed(changed, size)
				if _, _, f := Parse(changed); f != wrong(changed) {
					t.Fatalf("Parse(%x): %d, want %d", changed, f, wrong(changed))
				}
				got, p, f := Parse(plain)
				if f != wrong(plain) || f == 0 && !bytes.HasPrefix(plain, written(got, p)) {
					t.Fatalf("Parse(%x) = %+v, %x, %d, want %d", plain, got, p, f, wrong(plain))
				}
			}
		}
		for n := range b { // cut short, at each place
			if _, _, f := Parse(b[:n]); f != wrong(b[:n]) {
				t.Fatal(n, f, wrong(b[:n]))
			}
		}
	}
}

// TestBothNoughts: a checksum of 0 may stand there as 65535, too: the header is good then.
func TestBothNoughts(t *testing.T) {
	b := raw("45000014 baeb0000 00000000 00000000 00000000")
	for _, c := range []byte{0, 255} {
		b[10], b[11] = c, c
		if h, p, f := Parse(b); f != 0 || h.ID != 0xbaeb || len(p) != 0 {
			t.Error(c, h, p, f)
		}
	}
	if got, _ := Bytes(api.Header{ID: 0xbaeb}, nil); got[10] != 0 || got[11] != 0 {
		t.Error("what is told is 0: ", got)
	}
}

func TestParseAndBytesShareNothing(t *testing.T) {
	h := api.Header{TTL: 9, Options: []byte{131, 3, 9, 0}}
	payload := []byte{1, 2, 3}
	b, _ := Bytes(h, payload)
	kept := slices.Clone(b)
	h.Options[2], payload[0] = 77, 77
	if !bytes.Equal(b, kept) {
		t.Error("Bytes shares with what it was handed: ", b)
	}
	got, p, _ := Parse(b)
	_ = append(append(got.Options, 1, 2, 3, 4), 5)
	_ = append(p, 9, 9, 9, 9)
	got.Options[0], p[0] = 99, 99
	if !bytes.Equal(b, kept) || !bytes.Equal(p, []byte{99, 2, 3}) {
		t.Error("Parse shares: ", b, p)
	}
	again, p, _ := Parse(b)
	clear(b)
	if !bytes.Equal(again.Options, []byte{131, 3, 9, 0}) || !bytes.Equal(p, []byte{1, 2, 3}) {
		t.Error("Parse keeps what it was handed: ", again, p)
	}
}

// P3.2

func TestOptions(t *testing.T) {
	for _, x := range []struct {
		b      []byte
		want   []api.Option
		copied []byte
		routed bool
	}{
		{nil, nil, nil, false},
		{[]byte{}, nil, nil, false},
		{[]byte{0}, nil, nil, false},
		{[]byte{1}, nil, nil, false},
		{[]byte{1, 1, 1, 1}, nil, nil, false},
		{[]byte{1, 0, 131, 3, 9}, nil, nil, false},
		{[]byte{0, 7, 1, 255}, nil, nil, false},
		{[]byte{1, 131, 3, 9, 0, 5, 5, 5}, []api.Option{{Kind: 131, Data: []byte{9}}}, []byte{131, 3, 9, 0}, true},
		{[]byte{7, 2}, []api.Option{{Kind: 7}}, nil, false},
		{[]byte{7, 3, 5}, []api.Option{{Kind: 7, Data: []byte{5}}}, nil, false},
		// The length 2 is the least; Data may begin as an option does.
		{[]byte{131, 2}, []api.Option{{Kind: 131}}, []byte{131, 2, 0, 0}, true},
		{[]byte{137, 2, 0}, []api.Option{{Kind: 137}}, []byte{137, 2, 0, 0}, true},
		{[]byte{7, 4, 131, 2}, []api.Option{{Kind: 7, Data: []byte{131, 2}}}, nil, false},
		{[]byte{7, 3, 0, 137, 3, 0}, []api.Option{{Kind: 7, Data: []byte{0}}, {Kind: 137, Data: []byte{0}}}, []byte{137, 3, 0, 0}, true},
		// 127 is not copied, 128 is; neither is a source route, nor are their neighbours.
		{[]byte{127, 2, 128, 2}, []api.Option{{Kind: 127}, {Kind: 128}}, []byte{128, 2, 0, 0}, false},
		{[]byte{130, 2, 132, 2}, []api.Option{{Kind: 130}, {Kind: 132}}, []byte{130, 2, 132, 2}, false},
		{[]byte{136, 2, 1, 138, 2}, []api.Option{{Kind: 136}, {Kind: 138}}, []byte{136, 2, 138, 2}, false},
		{[]byte{3, 2, 9, 2}, []api.Option{{Kind: 3}, {Kind: 9}}, nil, false},
		{[]byte{2, 2, 255, 3, 8}, []api.Option{{Kind: 2}, {Kind: 255, Data: []byte{8}}}, []byte{255, 3, 8, 0}, false},
		{[]byte{255, 5, 1, 2, 3}, []api.Option{{Kind: 255, Data: []byte{1, 2, 3}}}, []byte{255, 5, 1, 2, 3, 0, 0, 0}, false},
		{[]byte{255, 4, 1, 2}, []api.Option{{Kind: 255, Data: []byte{1, 2}}}, []byte{255, 4, 1, 2}, false},
		{[]byte{1, 131, 4, 9, 9, 7, 2, 137, 3, 5, 0, 77}, []api.Option{{Kind: 131, Data: []byte{9, 9}}, {Kind: 7}, {Kind: 137, Data: []byte{5}}}, []byte{131, 4, 9, 9, 137, 3, 5, 0}, true},
		{[]byte{131, 3, 1, 131, 3, 2}, []api.Option{{Kind: 131, Data: []byte{1}}, {Kind: 131, Data: []byte{2}}}, []byte{131, 3, 1, 131, 3, 2, 0, 0}, true},
		// A source route behind the end is none.
		{[]byte{7, 2, 0, 137, 2}, []api.Option{{Kind: 7}}, nil, false},
	} {
		got, may := Options(x.b)
		if !may || !sameOptions(got, x.want) {
			t.Errorf("Options(%v) = %v, %v", x.b, got, may)
		}
		if got := Copied(x.b); !bytes.Equal(got, x.copied) {
			t.Errorf("Copied(%v) = %v", x.b, got)
		}
		if got := Routed(x.b); got != x.routed {
			t.Errorf("Routed(%v) = %v", x.b, got)
		}
	}
}

func TestOptionsThatMayNotBe(t *testing.T) {
	for _, b := range [][]byte{
		{7}, {131}, {255}, {2}, {7, 0}, {7, 1}, {131, 0}, {131, 1, 0, 0}, {7, 3}, {7, 255}, {131, 4, 9}, {255, 5, 1, 2},
		{1, 1, 9}, {1, 1, 1, 137}, {7, 2, 7}, {131, 3, 9, 7}, {131, 3, 9, 131, 1}, {137, 2, 7, 3}, {131, 3, 9, 1, 7, 0, 0}, {131, 2, 137},
		append(slices.Repeat([]byte{131, 2}, 50), 7, 3), append(full()[:39], 7),
	} {
		if l, may := Options(b); may || l != nil {
			t.Errorf("Options(%v) = %v, %v", b, l, may)
		}
		if l := Copied(b); l != nil {
			t.Errorf("Copied(%v) = %v", b, l)
		}
		if Routed(b) {
			t.Errorf("Routed(%v)", b)
		}
	}
}

// TestAllShortOptions holds all lists of some bytes, at which things begin or end, against what they are by another way.
func TestAllShortOptions(t *testing.T) {
	some := []byte{0, 1, 2, 3, 4, 127, 128, 131, 137}
	var try func(b []byte, left int)
	try = func(b []byte, left int) {
		want, may := parts(b)
		var copied []byte
		routed := false
		for _, o := range want {
			if o.Kind > 127 {
				copied = slices.Concat(copied, []byte{o.Kind, byte(len(o.Data) + 2)}, o.Data)
			}
			routed = routed || o.Kind == 131 || o.Kind == 137
		}
		copied = append(copied, make([]byte, (4-len(copied)%4)%4)...)
		got, ok := Options(b)
		if ok != may || !sameOptions(got, want) || !bytes.Equal(Copied(b), copied) || Routed(b) != routed {
			t.Fatalf("%v: %v, %v, Copied %v, Routed %v", b, got, ok, Copied(b), Routed(b))
		}
		if h := (api.Header{Options: b}); May(h) != (may && len(b)%4 == 0) {
			t.Fatalf("May: %v", b)
		}
		if left == 0 {
			return
		}
		for _, n := range some {
			try(append(slices.Clone(b), n), left-1)
		}
	}
	try(nil, 5)
}

func TestManyOptions(t *testing.T) {
	// More than a header has room for: Options and Copied have no bound of their own.
	b := slices.Repeat([]byte{131, 3, 9, 1, 7, 2}, 1000)
	l, may := Options(b)
	if !may || len(l) != 2000 || l[1998].Kind != 131 || l[1999].Kind != 7 {
		t.Error(len(l), may)
	}
	if got := Copied(b); !bytes.Equal(got, slices.Repeat([]byte{131, 3, 9}, 1000)) || !Routed(b) {
		t.Error(len(got))
	}
	long := append([]byte{200, 255}, filled(253, 1)...)
	if l, may := Options(long); !may || len(l) != 1 || !bytes.Equal(l[0].Data, long[2:]) {
		t.Error(l, may)
	}
	if got := Copied(long); !bytes.Equal(got, append(slices.Clone(long), 0)) {
		t.Error(got)
	}
}

func TestOptionsShareNothing(t *testing.T) {
	b := []byte{131, 4, 1, 2, 132, 4, 3, 4}
	kept := slices.Clone(b)
	l, _ := Options(b)
	copied := Copied(b)
	_ = append(l[0].Data, 9, 9, 9)
	_ = append(copied[:4], 9, 9)
	l[0].Data[0], l[1].Data[1], copied[0] = 77, 78, 79
	if !bytes.Equal(b, kept) || !bytes.Equal(l[1].Data, []byte{3, 78}) {
		t.Error("shared: ", b, l)
	}
	l, _ = Options(b)
	copied = Copied(b)
	clear(b)
	if !sameOptions(l, []api.Option{{Kind: 131, Data: []byte{1, 2}}, {Kind: 132, Data: []byte{3, 4}}}) || !bytes.Equal(copied, kept) {
		t.Error("kept what it was handed: ", l, copied)
	}
}

// TestEach: what goes over options may be left at any time, and gone through as often as one likes.
func TestEach(t *testing.T) {
	b := []byte{7, 2, 1, 131, 3, 9, 137, 2, 7}
	options := each(b)
	for most := range 6 {
		n := 0
		for o := range options {
			if n == most {
				break
			}
			if (n == 3) != (o == nil) {
				t.Error(n, o)
			}
			n++
		}
		if n != min(most, 4) {
			t.Error(most, n)
		}
	}
}

// P3.3

func TestLess(t *testing.T) {
	for _, h := range headers() {
		for _, ttl := range []byte{1, 2, 3, 64, 127, 128, 129, 254, 255} {
			h.TTL = ttl
			payload := filled(int(ttl), uint32(ttl))
			before := written(h, payload)
			h.TTL--
			for _, behind := range [][]byte{nil, {9}, {69, 0, 0, 20}, filled(3000, 4)} {
				handed := slices.Concat(before, behind)
				kept := slices.Clone(handed)
				got, e := Less(handed)
				if want := slices.Concat(written(h, payload), behind); e != api.OK || !bytes.Equal(got, want) {
					t.Errorf("Less(%x) = %x, %v", handed, got, e)
				}
				if !bytes.Equal(handed, kept) {
					t.Error("what is handed in was changed")
				}
				clear(handed)
				if got[8] != ttl-1 || got[0] == 0 {
					t.Error("it shares what it was handed")
				}
			}
		}
	}
}

func TestLessOfAllTimesAndProtocols(t *testing.T) {
	for ttl := range 256 {
		for proto := range 256 {
			h := api.Header{TTL: byte(ttl), Proto: byte(proto), Src: 0x0a000001, Dst: 0x0a000002}
			got, e := Less(written(h, nil))
			if ttl == 0 {
				if got != nil || e != api.ErrState {
					t.Fatal(proto, got, e)
				}
				continue
			}
			h.TTL--
			if want := written(h, nil); e != api.OK || !bytes.Equal(got, want) {
				t.Fatalf("%d, %d: %x, %v, want %x", ttl, proto, got, e, want)
			}
		}
	}
}

func TestLessChangesTheChecksum(t *testing.T) {
	for _, x := range []struct{ packet, want string }{
		{"45000014 00000000 0901b1e7 00000001 00000002", "45000014 00000000 0801b2e7 00000001 00000002"},
		{"45000014 b9ec0000 0100ffff 00000000 00000000", ""},
		// 65279 and 256 more are 65535, for which 0 is told.
		{"45000014 baeb0000 0100feff 00000000 00000000", "45000014 baeb0000 00000000 00000000 00000000"},
		// Where it is 0, 65535 is as good: of both the same one is told.
		{"45000014 b9eb0000 01000000 00000000 00000000", "45000014 b9eb0000 00000100 00000000 00000000"},
		{"45000014 b9eb0000 0100ffff 00000000 00000000", "45000014 b9eb0000 00000100 00000000 00000000"},
	} {
		got, e := Less(raw(x.packet))
		if x.want == "" {
			if got != nil || e != api.ErrBytes {
				t.Errorf("Less(%s) = %x, %v", x.packet, got, e)
			}
		} else if e != api.OK || !bytes.Equal(got, raw(x.want)) {
			t.Errorf("Less(%s) = %x, %v", x.packet, got, e)
		}
	}
	for id := range 65536 { // each checksum that there is
		h := api.Header{ID: uint16(id), TTL: 1, Proto: 6}
		b := written(h, nil)
		h.TTL = 0
		got, e := Less(b)
		if e != api.OK || !bytes.Equal(got, written(h, nil)) {
			t.Fatalf("Less(%x) = %x, %v", b, got, e)
		}
		c, m := uint16(b[10])<<8|uint16(b[11]), uint16(b[8])<<8|uint16(b[9])
		if n := sum.Change(c, m, m-256); got[10] != byte(n>>8) || got[11] != byte(n) {
			t.Fatalf("Less(%x) = %x: Change is %d", b, got, n)
		}
	}
}

func TestLessRefuses(t *testing.T) {
	good := written(api.Header{TTL: 9, Options: []byte{7, 4, 1, 1}}, []byte{1, 2, 3})
	spent := written(api.Header{TTL: 0, Options: []byte{7, 4, 1, 1}}, []byte{1, 2, 3})
	if b, e := Less(good); e != api.OK || b == nil {
		t.Error(b, e)
	}
	if b, e := Less(spent); e != api.ErrState || b != nil {
		t.Error(b, e)
	}
	for _, whole := range [][]byte{good, spent} { // a packet that is wrong is told so, though its TTL is 0
		for n := range whole {
			if b, e := Less(whole[:n]); e != api.ErrBytes || b != nil {
				t.Error(n, b, e)
			}
		}
		for _, x := range []struct {
			at int
			to byte
		}{{0, 0x56}, {0, 0x44}, {0, 0x4f}, {3, 23}, {3, 28}, {21, 5}, {21, 1}, {21, 0}} {
			b := slices.Clone(whole)
			b[x.at] = x.to
			b = sealed(b, 24)
			if got, e := Less(b); e != api.ErrBytes || got != nil {
				t.Error(x, got, e)
			}
		}
		b := slices.Clone(whole)
		b[10]++
		if got, e := Less(b); e != api.ErrBytes || got != nil {
			t.Error("checksum: ", got, e)
		}
	}
	if b, e := Less(nil); e != api.ErrBytes || b != nil {
		t.Error(b, e)
	}
}

// P3.4

func TestFragment(t *testing.T) {
	for _, h := range []api.Header{{MF: true}, {Offset: 1}, {Offset: 8191}, {MF: true, Offset: 5}, {DF: true, MF: true}, {Evil: true, Offset: 4096}} {
		if !Fragment(h) {
			t.Errorf("%+v", h)
		}
	}
	for _, h := range []api.Header{{}, {DF: true}, {Evil: true}, {DF: true, Evil: true, TTL: 255, ID: 65535}, {Offset: -1}, {Offset: math.MinInt}, {Options: full()}} {
		if Fragment(h) {
			t.Errorf("%+v", h)
		}
	}
}

func TestMulticast(t *testing.T) {
	for first := range 256 {
		for _, rest := range []api.Addr{0, 1, 0x00e0e0e0, 0x00ffffff} {
			if a := api.Addr(first)<<24 | rest; Multicast(a) != (first > 223) {
				t.Error(first, rest)
			}
		}
	}
}

func TestSame(t *testing.T) {
	one := api.Header{TOS: 1, ID: 2, Evil: true, DF: true, MF: true, Offset: 3, TTL: 4, Proto: 5, Src: 6, Dst: 7, Options: []byte{1, 1, 1, 0}}
	others := []api.Header{one}
	change := func(f func(h *api.Header)) {
		h := one
		h.Options = slices.Clone(one.Options)
		f(&h)
		others = append(others, h)
	}
	change(func(h *api.Header) { h.TOS++ })
	change(func(h *api.Header) { h.ID++ })
	change(func(h *api.Header) { h.Evil = false })
	change(func(h *api.Header) { h.DF = false })
	change(func(h *api.Header) { h.MF = false })
	change(func(h *api.Header) { h.Offset++ })
	change(func(h *api.Header) { h.Offset += 1 << 13 })
	change(func(h *api.Header) { h.Offset = -3 })
	change(func(h *api.Header) { h.TTL++ })
	change(func(h *api.Header) { h.Proto++ })
	change(func(h *api.Header) { h.Src++ })
	change(func(h *api.Header) { h.Dst++ })
	change(func(h *api.Header) { h.Src, h.Dst = h.Dst, h.Src })
	change(func(h *api.Header) { h.Options[3] = 1 })
	change(func(h *api.Header) { h.Options = h.Options[:3] })
	change(func(h *api.Header) { h.Options = append(h.Options, 0, 0, 0, 0) })
	change(func(h *api.Header) { h.Options = nil })
	for i, a := range others {
		for j, b := range others {
			if Same(a, b) != (i == j) {
				t.Error(i, j)
			}
		}
	}
	twin := one
	twin.Options = slices.Clone(one.Options)
	if !Same(one, twin) || !Same(api.Header{}, api.Header{Options: []byte{}}) || !Same(api.Header{Options: make([]byte, 0, 9)}, api.Header{}) {
		t.Error("the same ones: not")
	}
}

// P3.5

func TestParseOfBytesIsTheHeader(t *testing.T) {
	for i, h := range headers() {
		for _, size := range []int{0, 1, 19, 20, 21, 1000, 65535 - 20 - len(h.Options)} {
			payload := filled(size, uint32(i))
			b, e := Bytes(h, payload)
			got, p, f := Parse(b)
			if e != api.OK || f != 0 || !same(got, h) || !Same(got, h) || !bytes.Equal(p, payload) || len(b) != Size(h)+size {
				t.Errorf("%+v, %d: %+v, %d, %v, %d", h, size, got, len(p), e, f)
			}
		}
	}
	for place := range 16 { // each number's each value in each flag's company
		for n := 0; n < 65536; n += 13 {
			h := api.Header{TOS: byte(n >> 8), ID: uint16(n), Evil: place&1 != 0, DF: place&2 != 0, MF: place&4 != 0, Offset: n % 8192, TTL: byte(n), Proto: byte(n * 3), Src: api.Addr(n * 65537), Dst: ^api.Addr(n)}
			if place&8 != 0 {
				h.Options = []byte{1, 1, 0, byte(n)}
			}
			b, _ := Bytes(h, []byte{byte(n)})
			if got, p, f := Parse(b); f != 0 || !same(got, h) || !bytes.Equal(p, []byte{byte(n)}) {
				t.Fatalf("%+v: %+v, %v, %d", h, got, p, f)
			}
		}
	}
}

func TestLessIsThePacketButForItsTTL(t *testing.T) {
	for i, h := range headers() {
		h.TTL = 255
		payload := filled(50, uint32(i))
		b, _ := Bytes(h, payload)
		for h.TTL > 0 {
			var e api.Errno
			b, e = Less(b)
			h.TTL--
			if got, p, f := Parse(b); e != api.OK || f != 0 || !same(got, h) || !bytes.Equal(p, payload) {
				t.Fatalf("%+v: %+v, %v, %v, %d", h, got, p, e, f)
			}
		}
		if got, e := Less(b); got != nil || e != api.ErrState {
			t.Fatal(got, e)
		}
	}
}

// TestWhateverComesIn: no bytes make a call panic, and what is told of them is what is wrong.
func TestWhateverComesIn(t *testing.T) {
	for seed := range uint32(20000) {
		b := filled(int(seed%90), seed)
		if len(b) >= 20 && seed%2 == 0 { // most of these get as far as the options
			b[0], b[2], b[3] = 0x45+byte(seed/2%11), 0, byte(len(b))
			if size := int(b[0]&15) * 4; size <= len(b) {
				b = sealed(b, size)
			}
		}
		kept := slices.Clone(b)
		h, p, f := Parse(b)
		if f != wrong(b) || f == 0 && int(b[3]) != Size(h)+len(p) {
			t.Fatalf("Parse(%x): %d, want %d", b, f, wrong(b))
		}
		l, e := Less(b)
		if (e == api.ErrBytes) != (f != 0) || (e == api.ErrState) != (f == 0 && h.TTL == 0) || (l != nil) != (e == api.OK) {
			t.Fatalf("Less(%x): %x, %v", b, l, e)
		}
		want, may := parts(b)
		if got, ok := Options(b); ok != may || !sameOptions(got, want) || len(Copied(b))%4 != 0 || Routed(b) && !may {
			t.Fatalf("Options(%x): %v, %v", b, got, ok)
		}
		if !bytes.Equal(b, kept) {
			t.Fatalf("what is handed in was changed: %x", kept)
		}
	}
}
