package frame

import (
	"bytes"
	"encoding/binary"
	"math"
	"slices"
	"testing"

	"guidepost/api"
)

// tag is one of both numbers, which need not be one that may be.
func tag(boot, try uint64) api.Tag { return api.Tag{Boot: boot, Try: try} }

// one is a tag that is not zero.
func one() api.Tag { return tag(1, 1) }

// update are the bytes of 10.0.0.0/8 at 7, anew with each call.
func update() []byte { return []byte{10, 0, 0, 0, 8, 7} }

// hello, control, ackAlone and data are frames that may be, one of each form.
func hello() api.Frame { return api.Frame{Kind: 1, Node: 3, Mine: tag(5, 6), Theirs: tag(7, 8)} }

func control() api.Frame {
	return api.Frame{Kind: 2, Node: 3, Mine: tag(5, 6), Theirs: tag(7, 8), Seq: 9, Ack: 10, Body: update()}
}

func ackAlone() api.Frame {
	return api.Frame{Kind: 2, Node: 3, Mine: tag(5, 6), Theirs: tag(7, 8), Ack: 10}
}

func data() api.Frame {
	return api.Frame{Kind: 3, Node: 3, Mine: tag(5, 6), Theirs: tag(7, 8), Body: []byte{1, 2, 3, 4, 5}}
}

// varied are bytes that look like no other's: the same ones for each seed.
func varied(size int, seed uint32) []byte {
	b := make([]byte, size)
	for i := range b {
		seed = seed*1664525 + 1013904223
		b[i] = byte(seed >> 24)
	}
	return b
}

// isUpdate asks the bytes of an update in another way than the program.
func isUpdate(b []byte) bool {
	return len(b) == 6 && b[4] < 33 && uint64(binary.BigEndian.Uint32(b))%(1<<(32-b[4])) == 0
}

// may is what the document's table says, kind by kind, of all fields.
func may(f api.Frame) bool {
	counts := func(t api.Tag) bool { return t.Boot > 0 && t.Try > 0 }
	if f.Node < 1 || f.Node > 16 || !counts(f.Mine) {
		return false
	}
	switch f.Kind {
	case 1:
		return (counts(f.Theirs) || f.Theirs == tag(0, 0)) && f.Seq == 0 && f.Ack == 0 && len(f.Body) == 0
	case 2:
		return counts(f.Theirs) && (len(f.Body) == 0 && f.Seq == 0 || isUpdate(f.Body) && f.Seq > 0)
	case 3:
		return counts(f.Theirs) && f.Seq == 0 && f.Ack == 0 && len(f.Body) > 0 && len(f.Body) < 2049
	}
	return false
}

// signed writes the checksum where it stands. It is worked out in another way than the program's: words count modulo 65535, and not all are noughts.
func signed(b []byte) []byte {
	var n uint64
	for i, x := range b {
		switch {
		case i == 52 || i == 53:
		case i%2 == 0:
			n += uint64(x) * 256
		default:
			n += uint64(x)
		}
	}
	check := uint16(65535)
	if n > 0 {
		check = 65535 - uint16((n-1)%65535+1)
	}
	binary.BigEndian.PutUint16(b[52:], check)
	return b
}

// counted are a frame's bytes, worked out in another way than the program's, with that number of Body's bytes. It need not be a frame that may be.
func counted(f api.Frame, count int) []byte {
	b := []byte{byte(f.Kind), byte(f.Node)}
	for _, n := range []uint64{f.Mine.Boot, f.Mine.Try, f.Theirs.Boot, f.Theirs.Try, f.Seq, f.Ack} {
		b = binary.BigEndian.AppendUint64(b, n)
	}
	b = binary.BigEndian.AppendUint16(b, uint16(count))
	return signed(append(append(b, 0, 0), f.Body...))
}

func spelt(f api.Frame) []byte { return counted(f, len(f.Body)) }

// read is what stands in bytes of 54 and more, whether they are a frame's or not.
func read(b []byte) api.Frame {
	n := func(at int) uint64 { return binary.BigEndian.Uint64(b[at:]) }
	return api.Frame{
		Kind: api.FrameKind(b[0]), Node: int(b[1]), Mine: tag(n(2), n(10)), Theirs: tag(n(18), n(26)), Seq: n(34), Ack: n(42),
		Body: slices.Clone(b[54:]),
	}
}

// isFrame asks whether bytes are some frame's in another way than the program.
func isFrame(b []byte) bool {
	return len(b) >= 54 && may(read(b)) && bytes.Equal(spelt(read(b)), b)
}

// equal compares two frames in another way than the program.
func equal(a, b api.Frame) bool {
	return bytes.Equal(spelt(a), spelt(b)) && a.Kind == b.Kind && a.Node == b.Node
}

// tags are tags that are not zero: each byte of each number counts in one of them.
func tags() []api.Tag {
	return []api.Tag{
		one(), tag(1, 2), tag(2, 1), tag(258, 3), tag(1, 1<<32), tag(1<<63, 1), tag(0x0102030405060708, 0x1112131415161718), tag(65535, 65536),
		tag(0xffff0000, 0xffff), tag(math.MaxUint64, math.MaxUint64), tag(math.MaxUint64-1, 255), tag(256, math.MaxInt64),
	}
}

// numbers64 are edges of Seq and Ack.
func numbers64() []uint64 {
	return []uint64{1, 2, 255, 256, 65535, 65536, 1 << 32, 0x2122232425262728, math.MaxInt64, 1 << 63, math.MaxUint64}
}

// updates are bytes of updates.
func updates() [][]byte {
	return [][]byte{update(), make([]byte, 6), {255, 255, 255, 255, 32, 255}, {128, 0, 0, 0, 1, 254}, {1, 2, 3, 0, 24, 1}, {0, 0, 0, 0, 0, 255}}
}

// samples are frames that may be, of each kind.
func samples() []api.Frame {
	l := []api.Frame{hello(), control(), ackAlone(), data()}
	for n := 1; n < 17; n++ {
		for i, t := range tags() {
			u := tags()[(i+n)%len(tags())]
			seq, ack := numbers64()[(i+n)%11], numbers64()[(i*n)%11]
			l = append(l,
				api.Frame{Kind: 1, Node: n, Mine: t},
				api.Frame{Kind: 1, Node: n, Mine: t, Theirs: u},
				api.Frame{Kind: 2, Node: n, Mine: t, Theirs: u},
				api.Frame{Kind: 2, Node: n, Mine: t, Theirs: u, Ack: ack},
				api.Frame{Kind: 2, Node: n, Mine: t, Theirs: u, Seq: seq, Body: updates()[n%6]},
				api.Frame{Kind: 2, Node: n, Mine: t, Theirs: u, Seq: seq, Ack: ack, Body: updates()[i%6]},
				api.Frame{Kind: 3, Node: n, Mine: t, Theirs: u, Body: varied(1+(n*i*13)%2048, uint32(n))},
			)
		}
	}
	for _, size := range []int{1, 2, 3, 5, 6, 7, 20, 53, 54, 55, 255, 256, 257, 1023, 1024, 1500, 2046, 2047, 2048} {
		l = append(l,
			api.Frame{Kind: 3, Node: 16, Mine: one(), Theirs: one(), Body: make([]byte, size)},
			api.Frame{Kind: 3, Node: 1, Mine: one(), Theirs: one(), Body: bytes.Repeat([]byte{255}, size)},
			api.Frame{Kind: 3, Node: 1, Mine: one(), Theirs: tag(2, 2), Body: varied(size, 7)},
		)
	}
	return l
}

// with is f, changed.
func with(f api.Frame, change func(f *api.Frame)) api.Frame {
	change(&f)
	return f
}

// forms are the frames of each form.
func forms() []api.Frame { return []api.Frame{hello(), control(), ackAlone(), data()} }

// wrong are frames that may not be, each for one reason.
func wrong() []api.Frame {
	l := []api.Frame{{}}
	for _, f := range forms() {
		for _, k := range []api.FrameKind{-1, 0, 4, 5, 255, 256, 257, 258, 259, 1<<32 + 1, -1 << 32, math.MinInt, math.MaxInt} {
			l = append(l, with(f, func(f *api.Frame) { f.Kind = k }))
		}
		for _, n := range []int{-1, 0, 17, 18, 255, 256, 257, -16, 1<<32 + 1, math.MinInt, math.MaxInt} {
			l = append(l, with(f, func(f *api.Frame) { f.Node = n }))
		}
		for _, t := range []api.Tag{{}, tag(0, 1), tag(1, 0), tag(0, math.MaxUint64), tag(math.MaxUint64, 0), tag(1<<32, 0)} {
			l = append(l, with(f, func(f *api.Frame) { f.Mine = t }))
			if f.Kind != 1 || t != tag(0, 0) {
				l = append(l, with(f, func(f *api.Frame) { f.Theirs = t }))
			}
		}
	}
	for _, n := range numbers64() {
		// What a kind does not name, each alone; with a Seq alone no Ack is.
		l = append(l, with(hello(), func(f *api.Frame) { f.Seq = n }), with(hello(), func(f *api.Frame) { f.Ack = n }))
		l = append(l, with(data(), func(f *api.Frame) { f.Seq = n }), with(data(), func(f *api.Frame) { f.Ack = n }))
		l = append(l, with(ackAlone(), func(f *api.Frame) { f.Seq = n }))
	}
	for _, b := range [][]byte{{0}, {1}, update(), make([]byte, 2048), make([]byte, 2049)} {
		l = append(l, with(hello(), func(f *api.Frame) { f.Body = b }), with(hello(), func(f *api.Frame) { f.Body, f.Theirs = b, tag(0, 0) }))
	}
	l = append(l, with(control(), func(f *api.Frame) { f.Seq = 0 }), with(control(), func(f *api.Frame) { f.Seq, f.Ack = 0, 0 }))
	l = append(l, with(control(), func(f *api.Frame) { f.Body = nil }), with(control(), func(f *api.Frame) { f.Body = []byte{} }))
	for _, b := range [][]byte{
		update()[:5], append(update(), 0), append(update(), update()...), {0}, {10, 0, 0, 1, 8, 7}, {10, 0, 0, 0, 33, 7}, {0, 0, 0, 1, 31, 0}, {255, 255, 255, 255, 255, 255},
		make([]byte, 5), make([]byte, 7), make([]byte, 2048), {1, 10, 0, 0, 0, 8, 7},
	} {
		l = append(l, with(control(), func(f *api.Frame) { f.Body = b }), with(ackAlone(), func(f *api.Frame) { f.Body = b }))
	}
	for _, size := range []int{0, 2049, 2050, 4096, 65535, 65536, 65541} {
		l = append(l, with(data(), func(f *api.Frame) { f.Body = make([]byte, size) }))
	}
	return append(l, with(data(), func(f *api.Frame) { f.Body = nil }))
}

// each goes over frames of all kinds with all edges of all fields together, most of which may not be.
func each(yield func(api.Frame) bool) {
	ends := []api.Tag{{}, tag(1, 0), tag(0, 1), one(), tag(math.MaxUint64, 258)}
	bodies := [][]byte{nil, {}, {9}, update(), update()[:5], append(update(), 0), {10, 0, 0, 1, 8, 7}, make([]byte, 2048), make([]byte, 2049)}
	for k := range api.FrameKind(6) {
		for _, n := range []int{0, 1, 16, 17} {
			for _, mine := range ends {
				for _, theirs := range ends {
					for _, seq := range []uint64{0, 1, math.MaxUint64} {
						for _, ack := range []uint64{0, 1, math.MaxUint64} {
							for _, b := range bodies {
								if !yield(api.Frame{Kind: k, Node: n, Mine: mine, Theirs: theirs, Seq: seq, Ack: ack, Body: b}) {
									return
								}
							}
						}
					}
				}
			}
		}
	}
}

// P6.1

func TestHead(t *testing.T) {
	if Head() != 54 {
		t.Error(Head())
	}
	if b, e := Bytes(hello()); e != api.OK || len(b) != Head() {
		t.Error(b, e)
	}
	if b, e := Bytes(data()); e != api.OK || !slices.Equal(b[Head():], data().Body) {
		t.Error(b, e)
	}
}

func TestMay(t *testing.T) {
	for _, f := range samples() {
		if !May(f) {
			t.Error("it may be: ", f)
		}
	}
	for i, f := range wrong() {
		if May(f) {
			t.Error("it may not be: ", i, f.Kind, f.Node, f.Mine, f.Theirs, f.Seq, f.Ack, len(f.Body))
		}
	}
}

func TestMayOfEdges(t *testing.T) {
	for _, x := range []struct {
		why  string
		f    api.Frame
		want bool
	}{
		{"a hello that heard nothing", api.Frame{Kind: 1, Node: 1, Mine: one()}, true},
		{"a hello that heard", api.Frame{Kind: 1, Node: 16, Mine: one(), Theirs: one()}, true},
		{"an empty list is as nil", api.Frame{Kind: 1, Node: 1, Mine: one(), Body: []byte{}}, true},
		{"of an elder try", api.Frame{Kind: 1, Node: 1, Mine: one(), Theirs: tag(1, 0)}, false},
		{"without Mine", api.Frame{Kind: 1, Node: 1, Theirs: one()}, false},
		{"an Ack of nothing", api.Frame{Kind: 2, Node: 1, Mine: one(), Theirs: one()}, true},
		{"an Ack of all", api.Frame{Kind: 2, Node: 1, Mine: one(), Theirs: one(), Ack: math.MaxUint64, Body: []byte{}}, true},
		{"an Ack with a Seq", api.Frame{Kind: 2, Node: 1, Mine: one(), Theirs: one(), Seq: 1}, false},
		{"an update without a Seq", api.Frame{Kind: 2, Node: 1, Mine: one(), Theirs: one(), Body: update()}, false},
		{"an update", api.Frame{Kind: 2, Node: 1, Mine: one(), Theirs: one(), Seq: 1, Body: update()}, true},
		{"the last update", api.Frame{Kind: 2, Node: 1, Mine: one(), Theirs: one(), Seq: math.MaxUint64, Body: update()}, true},
		{"an update to nobody", api.Frame{Kind: 2, Node: 1, Mine: one(), Seq: 1, Body: update()}, false},
		{"a packet of a byte", api.Frame{Kind: 3, Node: 1, Mine: one(), Theirs: one(), Body: []byte{0}}, true},
		{"a packet of all bytes", api.Frame{Kind: 3, Node: 1, Mine: one(), Theirs: one(), Body: make([]byte, api.MaxPacket)}, true},
		{"a packet of one more", api.Frame{Kind: 3, Node: 1, Mine: one(), Theirs: one(), Body: make([]byte, api.MaxPacket+1)}, false},
		{"no packet", api.Frame{Kind: 3, Node: 1, Mine: one(), Theirs: one()}, false},
		{"a packet to nobody", api.Frame{Kind: 3, Node: 1, Mine: one(), Body: []byte{0}}, false},
	} {
		if May(x.f) != x.want || may(x.f) != x.want {
			t.Error(x.why, May(x.f), may(x.f))
		}
	}
	count := 0
	for f := range each {
		if May(f) != may(f) {
			t.Fatal(f.Kind, f.Node, f.Mine, f.Theirs, f.Seq, f.Ack, len(f.Body), May(f))
		}
		if may(f) {
			count++
		}
	}
	// Of 2 nodes and 2 tags Mine: 6 hellos, 24 of control, 12 of data.
	if count != 168 {
		t.Error("so many may be: ", count)
	}
}

func TestMayOfSizes(t *testing.T) {
	for size := range 2200 {
		if f := with(data(), func(f *api.Frame) { f.Body = varied(size, 3) }); May(f) != (size > 0 && size < 2049) {
			t.Error("data: ", size)
		}
		if f := with(control(), func(f *api.Frame) { f.Body = make([]byte, size) }); May(f) != (size == 6) {
			t.Error("control: ", size)
		}
		if f := with(hello(), func(f *api.Frame) { f.Body = make([]byte, size) }); May(f) != (size == 0) {
			t.Error("hello: ", size)
		}
	}
}

func TestBytes(t *testing.T) {
	want := []byte{
		2, 16, 0, 0, 0, 0, 0, 0, 1, 2, 0, 0, 0, 0, 0, 0, 0, 3, 17, 18, 19, 20, 21, 22, 23, 24, 0, 0, 0, 0, 0, 0, 0, 2,
		33, 34, 35, 36, 37, 38, 39, 40, 255, 0, 0, 0, 0, 0, 0, 6, 0, 6, 0, 0, 10, 1, 2, 0, 24, 255,
	}
	var n int
	for i := 0; i < len(want); i += 2 {
		n += int(want[i])*256 + int(want[i+1])
	}
	check := 65535 - n%65535
	want[52], want[53] = byte(check/256), byte(check%256)
	f := api.Frame{
		Kind: api.FrameControl, Node: 16, Mine: tag(258, 3), Theirs: tag(0x1112131415161718, 2),
		Seq: 0x2122232425262728, Ack: 255<<56 + 6, Body: []byte{10, 1, 2, 0, 24, 255},
	}
	if b, e := Bytes(f); e != api.OK || !slices.Equal(b, want) {
		t.Error(b, e)
	}
	// The document's example.
	if b, e := Bytes(api.Frame{Kind: api.FrameHello, Node: 2, Mine: one()}); e != api.OK || len(b) != 54 || b[0] != 1 || b[1] != 2 || b[9] != 1 || b[17] != 1 || b[51] != 0 {
		t.Error(b, e)
	}
	for _, f := range samples() {
		if b, e := Bytes(f); e != api.OK || !slices.Equal(b, spelt(f)) {
			t.Error(f, b, e)
		}
	}
	for i, f := range wrong() {
		if b, e := Bytes(f); b != nil || e != api.ErrArg {
			t.Error(i, f.Kind, f.Node, len(b), e)
		}
	}
	for f := range each {
		if b, e := Bytes(f); may(f) && (e != api.OK || !slices.Equal(b, spelt(f))) || !may(f) && (e != api.ErrArg || b != nil) {
			t.Fatal(f.Kind, f.Node, f.Mine, f.Theirs, f.Seq, f.Ack, len(f.Body), len(b), e)
		}
	}
}

func TestBytesAreNew(t *testing.T) {
	for _, f := range forms() {
		want, kept := spelt(f), slices.Clone(f.Body)
		b, e := Bytes(f)
		if e != api.OK || !slices.Equal(f.Body, kept) {
			t.Error("what is handed in was changed: ", f, e)
		}
		clear(f.Body)
		if !slices.Equal(b, want) {
			t.Error("what is told hangs on what was handed in: ", b)
		}
		copy(f.Body, kept)
		clear(b)
		if again, e := Bytes(f); e != api.OK || !slices.Equal(again, want) {
			t.Error("a second call answers otherwise: ", again, e)
		}
	}
	room := append(update(), 7, 7, 7)
	f := with(control(), func(f *api.Frame) { f.Body = room[:6] })
	if b, e := Bytes(f); e != api.OK || !slices.Equal(b, spelt(f)) || !slices.Equal(room, append(update(), 7, 7, 7)) {
		t.Error("a Body with room behind it: ", b, e, room)
	}
}

// refused asks that b are no frame's bytes.
func refused(t *testing.T, why string, b []byte) {
	t.Helper()
	kept := slices.Clone(b)
	if f, e := Of(b); e != api.ErrBytes || !equal(f, api.Frame{}) || f.Body != nil {
		t.Error(why, b[:min(len(b), 64)], f.Kind, e)
	}
	if !slices.Equal(b, kept) {
		t.Error("what is handed in was changed: ", why)
	}
}

func TestOf(t *testing.T) {
	for _, f := range samples() {
		b := spelt(f)
		if got, e := Of(b); e != api.OK || !equal(got, f) || !slices.Equal(b, spelt(f)) {
			t.Error(f, got, e)
		}
	}
	for f := range each {
		got, e := Of(spelt(f))
		if may(f) && (e != api.OK || !equal(got, f)) || !may(f) && (e != api.ErrBytes || !equal(got, api.Frame{})) {
			t.Fatal(f.Kind, f.Node, f.Mine, f.Theirs, f.Seq, f.Ack, len(f.Body), e)
		}
	}
}

func TestOfRefuses(t *testing.T) {
	refused(t, "nil", nil)
	refused(t, "no bytes", []byte{})
	for size := range 120 {
		refused(t, "noughts", make([]byte, size))
		refused(t, "all bits", bytes.Repeat([]byte{255}, size))
	}
	for _, f := range forms() {
		b := spelt(f)
		for size := range b { // bytes of 53, too
			refused(t, "bytes fewer", b[:size])
		}
		for more := 1; more < 12; more++ {
			refused(t, "noughts behind", append(slices.Clone(b), make([]byte, more)...))
			refused(t, "bytes behind", append(slices.Clone(b), varied(more, 5)...))
		}
		refused(t, "a byte ahead", append([]byte{0}, b...))
		refused(t, "two frames", append(slices.Clone(b), b...))
	}
	for _, f := range wrong() {
		// Others have no room in bytes: what is cut of them may be another frame.
		if f.Kind >= 0 && f.Kind < 256 && f.Node >= 0 && f.Node < 256 && len(f.Body) < 65536 {
			refused(t, "a frame that may not be", spelt(f))
		}
	}
}

// TestOfSizes: of 53, 54 and 55 bytes, and of all others, with the right number and checksum.
func TestOfSizes(t *testing.T) {
	for size := range 2120 {
		b := spelt(data())[:54]
		b = append(b, varied(max(size-54, 0), 9)...)[:size]
		if size >= 54 {
			binary.BigEndian.PutUint16(b[50:], uint16(size-54))
			signed(b)
		}
		f, e := Of(b)
		if may := size >= 55 && size <= 54+2048; may != (e == api.OK) || may && !slices.Equal(f.Body, b[54:]) || !may && e != api.ErrBytes {
			t.Error(size, e)
		}
	}
	for _, f := range []api.Frame{hello(), ackAlone()} {
		b := spelt(f)
		if _, e := Of(b); len(b) != 54 || e != api.OK {
			t.Error("54 bytes: ", len(b), e)
		}
		refused(t, "53 bytes", b[:53])
		refused(t, "55 bytes", append(b, 0))
		refused(t, "55 bytes, one of them Body's", spelt(with(f, func(f *api.Frame) { f.Body = []byte{0} })))
	}
}

// TestOfCounts: each number of Body's bytes but the right one, with a good checksum.
func TestOfCounts(t *testing.T) {
	for _, f := range forms() {
		for count := range 65536 {
			if count == len(f.Body) {
				if _, e := Of(counted(f, count)); e != api.OK {
					t.Error(count, e)
				}
			} else if _, e := Of(counted(f, count)); e != api.ErrBytes {
				t.Fatal("another number: ", f.Kind, count, e)
			}
		}
	}
	for _, size := range []int{1, 255, 256, 257, 2047, 2048} {
		f := with(data(), func(f *api.Frame) { f.Body = varied(size, 2) })
		for _, count := range []int{0, size - 1, size + 1, size + 256, size ^ 256, size + 54} {
			if count != size {
				refused(t, "another number", counted(f, count))
			}
		}
	}
}

// checkless is a frame whose checksum is 0: its last word makes all of it 65535.
func checkless() api.Frame {
	f := with(data(), func(f *api.Frame) { f.Body = []byte{9, 9, 0, 0} })
	copy(f.Body[2:], spelt(f)[52:54])
	return f
}

// TestOfChecksums: each checksum but the right one; where that is 0, 65535, too.
func TestOfChecksums(t *testing.T) {
	for _, f := range append(forms(), checkless(), with(hello(), func(f *api.Frame) { f.Theirs = tag(0, 0) })) {
		b := spelt(f)
		right := binary.BigEndian.Uint16(b[52:])
		for n := range 65536 {
			binary.BigEndian.PutUint16(b[52:], uint16(n))
			got, e := Of(b)
			if uint16(n) == right && (e != api.OK || !equal(got, f)) || uint16(n) != right && (e != api.ErrBytes || !equal(got, api.Frame{})) {
				t.Fatal(f, right, n, e)
			}
		}
	}
	if b, e := Bytes(checkless()); e != api.OK || b[52] != 0 || b[53] != 0 {
		t.Error("a checksum of 0: ", b, e)
	}
}

func TestOfIsNew(t *testing.T) {
	for _, f := range forms() {
		b := append(spelt(f), 7, 7, 7)
		kept := slices.Clone(b)
		got, e := Of(b[:len(b)-3])
		again, _ := Of(b[:len(b)-3])
		if e != api.OK || !slices.Equal(b, kept) {
			t.Fatal("what is handed in was changed: ", b, e)
		}
		_ = append(got.Body, 8)
		clear(again.Body)
		if !slices.Equal(b, kept) {
			t.Error("what is told shares memory with what is handed in: ", b)
		}
		clear(b)
		if !equal(got, f) {
			t.Error("what is told hangs on what was handed in, or on what was told: ", got)
		}
	}
}

// P6.2

func TestUpdate(t *testing.T) {
	for _, x := range []struct {
		body []byte
		want api.Update
	}{
		{update(), api.Update{Prefix: api.Prefix{Addr: 10 << 24, Len: 8}, Distance: 7}},
		{make([]byte, 6), api.Update{}},
		{[]byte{255, 255, 255, 255, 32, 255}, api.Update{Prefix: api.Prefix{Addr: 0xffffffff, Len: 32}, Distance: 255}},
		{[]byte{1, 2, 3, 0, 24, 0}, api.Update{Prefix: api.Prefix{Addr: 0x01020300, Len: 24}}},
	} {
		for _, seq := range []uint64{1, 9, math.MaxUint64} {
			f := with(control(), func(f *api.Frame) { f.Seq, f.Body = seq, slices.Clone(x.body) })
			if u, is := Update(f); !is || u != x.want || !slices.Equal(f.Body, x.body) {
				t.Error(x.body, u, is)
			}
		}
	}
	none := []api.Frame{
		hello(), ackAlone(), data(), {Kind: 1, Node: 1, Mine: one()}, {Kind: 2, Node: 1, Mine: one(), Theirs: one()},
		with(data(), func(f *api.Frame) { f.Body = update() }), with(ackAlone(), func(f *api.Frame) { f.Body = []byte{} }),
	}
	for i, f := range append(none, wrong()...) {
		if u, is := Update(f); is || u != (api.Update{}) {
			t.Error("it has none: ", i, f.Kind, u, is)
		}
	}
	for f := range each {
		u, is := Update(f)
		if want := may(f) && f.Kind == 2 && len(f.Body) > 0; is != want || !is && u != (api.Update{}) || is && u.Distance != 7 {
			t.Fatal(f.Kind, f.Node, f.Mine, f.Theirs, f.Seq, f.Ack, len(f.Body), u, is)
		}
	}
}

func TestSession(t *testing.T) {
	for _, f := range []api.Frame{control(), ackAlone(), data()} {
		for _, x := range []struct {
			why          string
			mine, theirs api.Tag
			want         bool
		}{
			{"its session", tag(7, 8), tag(5, 6), true},
			{"turned", tag(5, 6), tag(7, 8), false},
			{"both mine", tag(7, 8), tag(7, 8), false},
			{"both theirs", tag(5, 6), tag(5, 6), false},
			{"mine of another boot", tag(6, 8), tag(5, 6), false},
			{"mine of another try", tag(7, 9), tag(5, 6), false},
			{"theirs of another boot", tag(7, 8), tag(4, 6), false},
			{"theirs of another try", tag(7, 8), tag(5, 7), false},
			{"numbers of mine turned", tag(8, 7), tag(5, 6), false},
			{"numbers of theirs turned", tag(7, 8), tag(6, 5), false},
			{"mine zero", api.Tag{}, tag(5, 6), false},
			{"theirs zero", tag(7, 8), api.Tag{}, false},
			{"both zero", api.Tag{}, api.Tag{}, false},
			{"half of mine", tag(7, 0), tag(5, 6), false},
			{"half of theirs", tag(7, 8), tag(0, 6), false},
		} {
			if Session(f, x.mine, x.theirs) != x.want {
				t.Error(f.Kind, x.why)
			}
		}
	}
	same := with(data(), func(f *api.Frame) { f.Mine, f.Theirs = one(), one() })
	if !Session(same, one(), one()) {
		t.Error("both tags may be the same")
	}
	// A hello has none, nor has a frame that may not be, though its tags are these.
	for i, f := range append(wrong(), hello(), api.Frame{Kind: 1, Node: 1, Mine: one()}, api.Frame{Kind: 1, Node: 1, Mine: one(), Theirs: one()}) {
		if Session(f, f.Theirs, f.Mine) || Session(f, f.Mine, f.Theirs) || Session(f, tag(7, 8), tag(5, 6)) || Session(f, api.Tag{}, api.Tag{}) {
			t.Error("it has none: ", i, f.Kind, f.Mine, f.Theirs)
		}
	}
	for f := range each {
		if Session(f, f.Theirs, f.Mine) != (may(f) && f.Kind != 1) || f.Mine != f.Theirs && Session(f, f.Mine, f.Theirs) {
			t.Fatal(f.Kind, f.Node, f.Mine, f.Theirs, f.Seq, f.Ack, len(f.Body))
		}
	}
}

func TestMayTag(t *testing.T) {
	l := []uint64{0, 1, 2, 255, 256, 65536, 1 << 32, 1 << 63, math.MaxInt64, math.MaxUint64}
	for _, boot := range l {
		for _, try := range l {
			if want := boot > 0 && try > 0 || boot == 0 && try == 0; MayTag(tag(boot, try)) != want {
				t.Error(boot, try, !want)
			}
		}
	}
}

func TestSame(t *testing.T) {
	changes := []func(f *api.Frame){
		func(f *api.Frame) { f.Kind++ }, func(f *api.Frame) { f.Kind += 256 }, func(f *api.Frame) { f.Kind = 0 },
		func(f *api.Frame) { f.Node++ }, func(f *api.Frame) { f.Node += 256 }, func(f *api.Frame) { f.Node = 0 },
		func(f *api.Frame) { f.Mine.Boot++ }, func(f *api.Frame) { f.Mine.Try++ }, func(f *api.Frame) { f.Mine.Boot ^= 1 << 63 }, func(f *api.Frame) { f.Mine.Try ^= 1 << 63 },
		func(f *api.Frame) { f.Theirs.Boot++ }, func(f *api.Frame) { f.Theirs.Try++ }, func(f *api.Frame) { f.Theirs.Boot ^= 1 << 32 }, func(f *api.Frame) { f.Theirs.Try ^= 1 << 32 },
		func(f *api.Frame) { f.Mine, f.Theirs = f.Theirs, f.Mine }, func(f *api.Frame) { f.Mine = api.Tag{} }, func(f *api.Frame) { f.Theirs = api.Tag{} },
		func(f *api.Frame) { f.Seq++ }, func(f *api.Frame) { f.Ack++ }, func(f *api.Frame) { f.Seq ^= 1 << 63 }, func(f *api.Frame) { f.Ack ^= 1 << 63 },
		func(f *api.Frame) { f.Body = append(slices.Clone(f.Body), 0) }, func(f *api.Frame) { f.Body = append([]byte{0}, f.Body...) },
	}
	for _, f := range append(forms(), api.Frame{}, with(data(), func(f *api.Frame) { f.Seq, f.Ack = 1, 2 })) {
		if g := with(f, func(f *api.Frame) { f.Body = slices.Clone(f.Body) }); !Same(f, g) || !Same(f, f) {
			t.Error("they are the same: ", f)
		}
		for i, change := range changes {
			if g := with(f, change); (Same(f, g) || Same(g, f)) && !equal(f, g) {
				t.Error("they are not: ", i, f, g)
			}
		}
		for i := range f.Body {
			g := with(f, func(f *api.Frame) { f.Body = slices.Clone(f.Body); f.Body[i] ^= 1 })
			if Same(f, g) || Same(g, f) || Same(f, with(f, func(f *api.Frame) { f.Body = f.Body[:i] })) {
				t.Error("they are not, but for a byte of Body: ", i, f)
			}
		}
	}
	none, empty := hello(), with(hello(), func(f *api.Frame) { f.Body = []byte{} })
	if !Same(none, empty) || !Same(empty, none) || !Same(api.Frame{}, api.Frame{Body: []byte{}}) {
		t.Error("nil and empty are one")
	}
	if l := samples(); !Same(l[len(l)-1], l[len(l)-1]) || Same(l[0], l[len(l)-1]) {
		t.Error("of samples")
	}
	for i, f := range wrong() { // frames that may not be are the same, or not, as well
		if !Same(f, with(f, func(f *api.Frame) { f.Body = slices.Clone(f.Body) })) || Same(f, with(f, func(f *api.Frame) { f.Node-- })) {
			t.Error(i)
		}
	}
}

// P6.3

func TestFramesAreReadAsTold(t *testing.T) {
	for _, f := range samples() {
		b, e := Bytes(f)
		got, g := Of(b)
		if e != api.OK || g != api.OK || !Same(got, f) || !equal(got, f) || !May(got) {
			t.Error(f, e, got, g)
		}
		if again, e := Bytes(got); e != api.OK || !slices.Equal(again, b) {
			t.Error("told again: ", again, e)
		}
	}
}

// changed asks Of of b with another word at that place: it is a frame's only where 0 and 65535 stand for each other, and then that other frame's. Told is whether it is a frame's.
func changed(t *testing.T, b []byte, at int, n uint16) bool {
	t.Helper()
	kept := slices.Clone(b[at:min(at+2, len(b))])
	defer copy(b[at:], kept)
	was := binary.BigEndian.Uint16(append(slices.Clone(kept), 0))
	copy(b[at:], []byte{byte(n >> 8), byte(n)})
	f, e := Of(b)
	switch {
	case was^n != 65535 || was != 0 && n != 0 || !isFrame(b):
		if e != api.ErrBytes || !equal(f, api.Frame{}) {
			t.Fatal("no frame's: ", at, was, n, b, e)
		}
	case e != api.OK || !equal(f, read(b)):
		t.Fatal("another frame's: ", at, was, n, b, e)
	}
	return e == api.OK
}

// TestEachWordChanged: each word of a frame's bytes, to each other one; a last byte alone is a word with a nought behind.
func TestEachWordChanged(t *testing.T) {
	l := []api.Frame{
		with(control(), func(f *api.Frame) { f.Ack = 0xffff0000 }),
		with(data(), func(f *api.Frame) { f.Body = []byte{255, 255, 0, 0, 1} }),
	}
	for _, f := range l {
		b := spelt(f)
		for at := 0; at < len(b); at += 2 {
			step := 1 + 255*(at+2-min(at+2, len(b)))
			for n := 0; n < 65536; n += step {
				if uint16(n) != binary.BigEndian.Uint16(append(slices.Clone(b[at:min(at+2, len(b))]), 0)) {
					changed(t, b, at, uint16(n))
				}
			}
		}
		if !slices.Equal(b, spelt(f)) {
			t.Fatal("what is handed in was changed: ", b)
		}
	}
}

func TestWordsOfAllFramesChanged(t *testing.T) {
	others := 0
	for _, f := range append(samples(), checkless()) {
		b := spelt(f)
		for at := 0; at < min(len(b)-1, 90); at += 2 {
			was := binary.BigEndian.Uint16(b[at:])
			for _, n := range []uint16{0, 1, 255, 256, 65279, 65280, 65534, 65535, was + 1, was - 1, ^was, was ^ 0x8000, was<<8 | was>>8} {
				if n != was && changed(t, b, at, n) {
					others++
				}
			}
		}
	}
	if others < 1000 {
		t.Error("0 and 65535 stood for each other so seldom: ", others)
	}
}

// TestNoughtsAndOnesStandForEachOther: in each word of Ack, and of a packet, but not in the checksum, nor where the other one is no frame.
func TestNoughtsAndOnesStandForEachOther(t *testing.T) {
	same := func(f, g api.Frame) {
		t.Helper()
		if !slices.Equal(spelt(f)[52:54], spelt(g)[52:54]) {
			t.Error("their checksums are not one: ", f, g)
		}
		b, c := spelt(f), spelt(g)
		x, e := Of(b)
		y, h := Of(c)
		if e != api.OK || h != api.OK || !Same(x, f) || !Same(y, g) || Same(x, y) {
			t.Error(f, x, e, g, y, h)
		}
	}
	for i := range 4 {
		same(ackAlone(), with(ackAlone(), func(f *api.Frame) { f.Ack |= 0xffff << (16 * max(i, 1)) }))
		same(with(control(), func(f *api.Frame) { f.Seq = 1 << 48 }), with(control(), func(f *api.Frame) { f.Seq = 1<<48 | 0xffff<<(16*(i%3)) }))
		same(with(data(), func(f *api.Frame) { f.Body = make([]byte, 8) }), with(data(), func(f *api.Frame) { f.Body = make([]byte, 8); f.Body[2*i], f.Body[2*i+1] = 255, 255 }))
	}
	same(with(hello(), func(f *api.Frame) { f.Mine = tag(0xffff0001, 1) }), with(hello(), func(f *api.Frame) { f.Mine = tag(1, 1) }))
	lone := with(hello(), func(f *api.Frame) { f.Mine, f.Theirs = one(), tag(65535, 65535) })
	b := spelt(lone)
	clear(b[32:34]) // Theirs has one nought then
	refused(t, "half a tag", b)
	clear(b[24:26]) // and two: nothing was heard
	if f, e := Of(b); e != api.OK || f.Theirs != tag(0, 0) || !equal(f, read(b)) {
		t.Error(f, e)
	}
	b = spelt(ackAlone())
	b[40], b[41] = 255, 255
	refused(t, "a Seq of an Ack alone", b)
	b = spelt(checkless())
	b[52], b[53] = 255, 255
	refused(t, "a checksum of 65535 for 0", b)
}

// TestWhateverComesIn: no bytes make a call panic, and those that are read are just those that would be told.
func TestWhateverComesIn(t *testing.T) {
	count := 0
	for seed := range uint32(120000) {
		b := varied(int(seed%80), seed)
		if seed%4 != 0 { // bytes of a good one are other ones, with a checksum that is right or not
			b = spelt(forms()[seed%4])
			for i := range seed%3 + 1 {
				b[varied(4, seed+i)[3]%byte(len(b))] = byte(seed / (7 + i))
			}
			if seed%5 > 0 {
				signed(b)
			}
		}
		kept := slices.Clone(b)
		f, e := Of(b)
		if is := isFrame(kept); is != (e == api.OK) || is && !equal(f, read(kept)) || !is && (e != api.ErrBytes || !equal(f, api.Frame{})) {
			t.Fatalf("Of(%v) = %v, %v", kept, f, e)
		}
		if !slices.Equal(b, kept) {
			t.Fatalf("what is handed in was changed: %v", kept)
		}
		if e == api.OK {
			count++
			if told, e := Bytes(f); e != api.OK || !slices.Equal(told, kept) {
				t.Fatalf("Bytes(%v) = %v, %v", f, told, e)
			}
		}
	}
	if count < 1000 {
		t.Error("so few were read: ", count)
	}
}
