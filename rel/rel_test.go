package rel

import (
	"bytes"
	"fmt"
	"maps"
	"math"
	"slices"
	"strings"
	"testing"

	"guidepost/api"
)

const greatest = uint64(math.MaxUint64)

// model is a stream worked out in another way than the program's: all messages that were ever sent, or taken, stand in it for good, as texts; what is under way is found by numbers that were told; ticks are told by the times of two of them, and what is owed by how many messages came.
type model struct {
	again     int
	all, got  []string
	told      map[uint64]bool
	acked     uint64
	now, news int
	// came are the segments with a number that came, answered those behind which a segment was told.
	came, answered int
}

func (m *model) send(body []byte) (uint64, api.Errno) {
	switch {
	case len(body) > 1024:
		return 0, api.ErrLong
	case len(m.all)-int(m.acked) >= 65536:
		return 0, api.ErrFull
	}
	m.all = append(slices.Clip(m.all), string(body))
	return uint64(len(m.all)), api.OK
}

func (m *model) segment(n uint64) api.Segment {
	return api.Segment{Seq: n, Ack: uint64(len(m.got)), Body: []byte(m.all[n-1])}
}

func (m *model) due() []api.Segment {
	var l []api.Segment
	for n := m.acked + 1; n <= m.acked+8 && n <= uint64(len(m.all)); n++ {
		if !m.told[n] {
			m.told[n] = true
			l = append(l, m.segment(n))
			m.news = m.now
		}
	}
	if len(l) == 0 && m.came > m.answered {
		l = []api.Segment{{Ack: uint64(len(m.got))}}
	}
	if len(l) > 0 {
		m.answered = m.came
	}
	return l
}

func (m *model) take(g api.Segment) (string, uint64, bool, api.Errno) {
	if len(g.Body) > 1024 {
		return "", 0, false, api.ErrLong
	}
	if m.told[g.Ack] && g.Ack > m.acked {
		m.acked, m.news = g.Ack, m.now
	}
	if g.Seq == 0 {
		return "", m.acked, false, api.OK
	}
	m.came++
	if g.Seq != uint64(len(m.got))+1 {
		return "", m.acked, false, api.OK
	}
	m.got = append(slices.Clip(m.got), string(g.Body))
	return string(g.Body), m.acked, true, api.OK
}

func (m *model) tick() []api.Segment {
	m.now++
	if !m.told[m.acked+1] || m.now-m.news < m.again {
		return nil
	}
	var l []api.Segment
	for n := m.acked + 1; m.told[n]; n++ {
		l = append(l, m.segment(n))
	}
	m.news, m.answered = m.now, m.came
	return l
}

func (m *model) left() int { return len(m.all) - int(m.acked) }

func (m *model) copied() *model {
	c := *m
	c.told = maps.Clone(m.told)
	return &c
}

func made(t *testing.T, again int) *Stream {
	t.Helper()
	s, e := New(again)
	if s == nil || e != api.OK {
		t.Fatalf("New(%d): %v, %d", again, s, e)
	}
	return s
}

// pair is a stream with its model. What is done to it is done to both; it fails if these do not answer the same.
type pair struct {
	s *Stream
	m *model
}

func both(t *testing.T, again int) *pair {
	t.Helper()
	return &pair{made(t, again), &model{again: again, told: map[uint64]bool{}}}
}

func (p *pair) copied() *pair { return &pair{p.s.Copy(), p.m.copied()} }

// looked fails if anything that is looked at is another thing than it ought to be.
func (p *pair) looked(t *testing.T) {
	t.Helper()
	looks(t, p.s, p.m.left(), p.m.acked, uint64(len(p.m.got)))
}

func looks(t *testing.T, s *Stream, left int, acked, taken uint64) {
	t.Helper()
	if s.Left() != left || s.Acked() != acked || s.Taken() != taken {
		t.Fatalf("%d left, up to %d acknowledged, up to %d taken, not %d, %d, %d", s.Left(), s.Acked(), s.Taken(), left, acked, taken)
	}
}

// overwrite writes over all memory that a list has.
func overwrite(b []byte) {
	b = b[:cap(b)]
	for i := range b {
		b[i] = ^b[i]
	}
}

// same fails if these are not the segments that are wanted. Each is written over once it was looked at, so that what shares memory with it is seen to be another one then.
func same(t *testing.T, what string, got, want []api.Segment) {
	t.Helper()
	if len(got) != len(want) {
		t.Fatalf("%s: %v, not %v", what, got, want)
	}
	for i, w := range want {
		g := &got[i]
		if g.Seq != w.Seq || g.Ack != w.Ack || !bytes.Equal(g.Body, w.Body) {
			t.Fatalf("%s: %d: %v, not %v", what, i, *g, w)
		}
		overwrite(g.Body)
		*g = api.Segment{Seq: 77, Ack: 77}
	}
	clear(got[:cap(got)])
}

// wide is a body with memory behind it that is not its own.
func wide(body string) []byte {
	return []byte(body + "behind it")[:len(body)]
}

// kept fails if anything of a body that was handed in is not as it was, and writes over it then.
func kept(t *testing.T, b []byte, body string) {
	t.Helper()
	if string(b) != body || string(b[:len(body)+9]) != body+"behind it" {
		t.Fatalf("changed: %q, not %q", b[:len(body)+9], body)
	}
	overwrite(b)
}

func (p *pair) send(t *testing.T, body string) {
	t.Helper()
	b := wide(body)
	want, bad := p.m.send(b)
	if n, e := p.s.Send(b); n != want || e != bad {
		t.Fatalf("Send(%d bytes): %d, %d, not %d, %d", len(body), n, e, want, bad)
	}
	kept(t, b, body)
	p.looked(t)
}

func (p *pair) due(t *testing.T) {
	t.Helper()
	same(t, "Due", p.s.Due(), p.m.due())
	p.looked(t)
}

func (p *pair) tick(t *testing.T) {
	t.Helper()
	same(t, "Tick", p.s.Tick(), p.m.tick())
	p.looked(t)
}

func (p *pair) ticks(t *testing.T, n int) {
	t.Helper()
	for range n {
		p.tick(t)
	}
}

func (p *pair) take(t *testing.T, seq, ack uint64, body string) {
	t.Helper()
	b := wide(body)
	g := api.Segment{Seq: seq, Ack: ack, Body: b}
	want, upto, is, bad := p.m.take(g)
	got, n, ok, e := p.s.Take(g)
	if string(got) != want || n != upto || ok != is || e != bad {
		t.Fatalf("Take(%d, %d, %d bytes): %q, %d, %t, %d, not %q, %d, %t, %d", seq, ack, len(body), got, n, ok, e, want, upto, is, bad)
	}
	overwrite(got)
	kept(t, b, body)
	p.looked(t)
}

// held fails if anything that is told from now on, when nothing comes any more, is another thing than it ought to be.
func (p *pair) held(t *testing.T) {
	t.Helper()
	p.looked(t)
	// Ticks ahead of what is due, and behind it.
	q := p.copied()
	q.ticks(t, 2*q.m.again+1)
	q.due(t)
	q = p.copied()
	q.due(t)
	q.due(t)
	q.ticks(t, q.m.again)
	// All that there is, however much stands in the line.
	for range 2 {
		q.take(t, 0, q.top(), "")
		q.due(t)
	}
	p.looked(t)
}

// top is the last number that was told, and is not acknowledged; or what is.
func (p *pair) top() uint64 {
	n := p.m.acked
	for p.m.told[n+1] {
		n++
	}
	return n
}

// missing are streams that are not there, and zero ones.
func missing() []*Stream { return []*Stream{nil, {}, new(Stream)} }

// someTicks are numbers of ticks that there may be.
func someTicks() []int { return []int{1, 2, 3, 5, 50, api.MaxTicks - 1, api.MaxTicks} }

// name is a body that is no other message's.
func name(n int) string { return fmt.Sprint("message ", n) }

// begun is one that took so many messages, told that, and then sent so many, of which so many were told by Due, and so many of these acknowledged.
func begun(t *testing.T, again, sent, told, acked, taken int) *pair {
	t.Helper()
	p := both(t, again)
	for n := range taken {
		p.take(t, uint64(n)+1, 0, fmt.Sprint("taken ", n+1))
	}
	p.due(t)
	for n := range sent {
		p.send(t, name(n+1))
		if n >= told {
			continue
		}
		// Where no more have room under way, one is acknowledged ahead of it.
		if p.due(t); !p.m.told[uint64(n)+1] {
			p.take(t, 0, p.m.acked+1, "")
			p.due(t)
		}
	}
	p.take(t, 0, uint64(acked), "")
	if looks(t, p.s, sent-acked, uint64(acked), uint64(taken)); p.top() != uint64(told) {
		t.Fatal("not as it was to begin", sent, told, acked, taken, p.m)
	}
	return p
}

// P11.1

func TestNew(t *testing.T) {
	for again, may := range map[int]bool{math.MinInt: false, -100: false, -1: false, 0: false, 1: true, 2: true, 50: true, 99: true, api.MaxTicks: true, api.MaxTicks + 1: false, 257: false, 1<<32 + 1: false, math.MaxInt: false} {
		s, e := New(again)
		if !may {
			if s != nil || e != api.ErrArg {
				t.Errorf("New(%d): %v, %d", again, s, e)
			}
			continue
		}
		if s == nil || e != api.OK {
			t.Fatalf("New(%d): %v, %d", again, s, e)
		}
		looks(t, s, 0, 0, 0)
		same(t, "Due", s.Due(), nil)
		for range 2*api.MaxTicks + 1 {
			same(t, "Tick", s.Tick(), nil)
		}
		same(t, "Due", s.Due(), nil)
		looks(t, s, 0, 0, 0)
	}
}

func TestNewForAllTicks(t *testing.T) {
	for again := -2; again <= 2*api.MaxTicks; again++ {
		s, e := New(again)
		if (e == api.OK) != (again >= 1 && again <= 100) || (s == nil) == (e == api.OK) {
			t.Errorf("New(%d): %v, %d", again, s, e)
		}
	}
}

func TestNewEachApart(t *testing.T) {
	p, q := both(t, 2), both(t, 2)
	p.send(t, "one")
	p.take(t, 1, 0, "taken")
	q.held(t)
	q.send(t, "other")
	p.held(t)
	q.held(t)
}

func TestSendNumbers(t *testing.T) {
	s := made(t, 1)
	for n := 1; n <= 300; n++ {
		if got, e := s.Send([]byte(name(n))); got != uint64(n) || e != api.OK {
			t.Fatal(n, got, e)
		}
		looks(t, s, n, 0, 0)
	}
}

// TestSendNumbersGoOn: behind acknowledgements, and however much was told.
func TestSendNumbersGoOn(t *testing.T) {
	p := both(t, 2)
	for n := range 100 {
		p.send(t, name(n+1))
		if n%3 != 1 {
			p.due(t)
		}
		if n%5 == 4 {
			p.take(t, 0, p.top()-uint64(n%2), "")
		}
		p.held(t)
	}
}

// lengths are how long bodies are, and whether they may be.
func lengths() map[int]bool {
	return map[int]bool{0: true, 1: true, 2: true, 255: true, 256: true, 1023: true, 1024: true, 1025: false, 1026: false, 2048: false, 65536: false, 65537: false}
}

func TestSendLong(t *testing.T) {
	for n, may := range lengths() {
		for _, ahead := range []int{0, 3, 20} {
			p := begun(t, 2, ahead, min(ahead, 4), min(ahead, 1), 1)
			was := p.copied()
			p.send(t, strings.Repeat("b", n))
			if !may {
				p.m = was.m
			}
			if p.s.Left() != was.m.left()+map[bool]int{true: 1}[may] {
				t.Error(n, ahead, p.s.Left())
			}
			p.held(t)
		}
	}
}

func TestSendNothing(t *testing.T) {
	s := made(t, 1)
	for n, body := range [][]byte{nil, {}, {0}, nil} {
		if got, e := s.Send(body); got != uint64(n+1) || e != api.OK {
			t.Error(n, got, e)
		}
	}
	want := []api.Segment{{Seq: 1}, {Seq: 2}, {Seq: 3, Body: []byte{0}}, {Seq: 4}}
	same(t, "Due", s.Due(), want)
	same(t, "Tick", s.Tick(), want)
}

// full is one in which as many messages as there may be are not acknowledged, of which so many were told.
func full(t *testing.T, told int) *pair {
	t.Helper()
	p := begun(t, 3, told, told, 0, 0)
	var all []string
	for n := 1; n <= 65536; n++ {
		all = append(all, name(n))
		if n <= told {
			continue
		}
		if got, e := p.s.Send([]byte(name(n))); got != uint64(n) || e != api.OK || p.s.Left() != n {
			t.Fatal(n, got, e, p.s.Left())
		}
	}
	p.m.all = all
	return p
}

func TestFull(t *testing.T) {
	for _, told := range []int{0, 1, 8} {
		p := full(t, told)
		for range 3 {
			for _, body := range []string{"", "one", strings.Repeat("b", 1024)} {
				if n, e := p.s.Send([]byte(body)); n != 0 || e != api.ErrFull {
					t.Fatal(told, n, e)
				}
			}
			if n, e := p.s.Send(make([]byte, 1025)); n != 0 || e != api.ErrLong {
				t.Fatal(told, n, e)
			}
			p.looked(t)
		}
		p.held(t)
	}
}

func TestFullButForOne(t *testing.T) {
	s := made(t, 1)
	for n := 1; n < api.MaxLine; n++ {
		s.Send(nil)
	}
	looks(t, s, api.MaxLine-1, 0, 0)
	for i, want := range []struct {
		n uint64
		e api.Errno
	}{{api.MaxLine, api.OK}, {0, api.ErrFull}, {0, api.ErrFull}} {
		if n, e := s.Send(nil); n != want.n || e != want.e {
			t.Error(i, n, e)
		}
	}
}

// TestFullBehindAcks: as many more have room as were acknowledged, and what was acknowledged only.
func TestFullBehindAcks(t *testing.T) {
	for _, acks := range []uint64{0, 1, 2, 7, 8} {
		p := full(t, 8)
		p.take(t, 0, acks, "")
		for range acks {
			p.send(t, "one more")
		}
		if n, e := p.s.Send(nil); n != 0 || e != api.ErrFull {
			t.Fatal(acks, n, e)
		}
		// To tell messages, to take some, and ticks make no room; an acknowledgement of what was told does.
		p.due(t)
		p.ticks(t, 4)
		p.take(t, 1, 0, "taken")
		p.take(t, 2, acks+9, "taken, too")
		p.send(t, "too many")
		p.take(t, 0, acks+1, "")
		p.send(t, "one more")
		p.send(t, "too many")
		p.held(t)
	}
}

// TestLongStream: more messages than there is room for go through it, each once.
func TestLongStream(t *testing.T) {
	s, n := made(t, 1), uint64(0)
	for sent := uint64(1); sent <= 3*api.MaxLine; sent++ {
		if got, e := s.Send([]byte{byte(sent), byte(sent >> 8), byte(sent >> 16)}); got != sent || e != api.OK {
			t.Fatal(sent, got, e)
		}
		if sent%11 > 4 {
			continue
		}
		for _, g := range s.Due() {
			n++
			if g.Seq != n || !bytes.Equal(g.Body, []byte{byte(n), byte(n >> 8), byte(n >> 16)}) {
				t.Fatal(n, g)
			}
		}
		if _, upto, _, _ := s.Take(api.Segment{Ack: n}); upto != n || s.Left() != int(sent-n) {
			t.Fatal(sent, n, upto, s.Left())
		}
	}
}

// P11.2

func TestExample(t *testing.T) {
	p := both(t, 2)
	var want []api.Segment
	for i, body := range strings.Split("abcdefghij", "") {
		p.send(t, body)
		want = append(want, api.Segment{Seq: uint64(i + 1), Body: []byte(body)})
	}
	same(t, "Due", p.copied().s.Due(), want[:8])
	p.due(t)
	p.due(t)
	p.take(t, 0, 3, "")
	same(t, "Due", p.copied().s.Due(), want[8:])
	p.due(t)
	p.due(t)
	p.held(t)
}

// TestWindow: of each number of messages at most eight are told, and more as soon as some are acknowledged.
func TestWindow(t *testing.T) {
	for sent := range 3 * api.Window {
		for acks := range api.Window + 1 {
			p := both(t, 3)
			for n := range sent {
				p.send(t, name(n+1))
			}
			first := p.copied().s.Due()
			if len(first) != min(sent, 8) {
				t.Fatal(sent, len(first))
			}
			p.due(t)
			same(t, "Due twice", p.s.Due(), nil)
			p.take(t, 0, uint64(acks), "")
			acked := acks
			if acks > sent {
				acked = 0
			}
			if next := p.copied().s.Due(); len(next) != min(sent-len(first), acked) {
				t.Fatal(sent, acks, len(next))
			}
			p.due(t)
			same(t, "Due twice", p.s.Due(), nil)
			p.held(t)
		}
	}
}

// TestDueBehindEachSend: what is sent is told at once, while there is room.
func TestDueBehindEachSend(t *testing.T) {
	p := both(t, 3)
	for n := range 2 * api.Window {
		p.send(t, name(n+1))
		if l := p.copied().s.Due(); len(l) != map[bool]int{true: 1}[n < 8] {
			t.Fatal(n, l)
		}
		p.due(t)
		p.due(t)
		p.held(t)
	}
}

// TestDueOwed: an acknowledgement alone is told once, if something with a number came.
func TestDueOwed(t *testing.T) {
	for _, x := range []struct {
		what string
		seqs []uint64
		owed bool
	}{
		{"nothing came", nil, false},
		{"only acknowledgements came", []uint64{0, 0}, false},
		{"the next one", []uint64{4}, true},
		{"two", []uint64{4, 5}, true},
		{"the one before", []uint64{3}, true},
		{"the first one", []uint64{1}, true},
		{"one further on", []uint64{5}, true},
		{"the last one that there is", []uint64{greatest}, true},
		{"the next one, and it again", []uint64{4, 4}, true},
		{"the next one, and an acknowledgement", []uint64{4, 0}, true},
		{"the one before, and an acknowledgement", []uint64{3, 0, 0}, true},
		{"one that is too long", []uint64{long + 4, long + 3, long + 9}, false},
	} {
		for sent := range 3 {
			for told := range sent + 1 {
				p := begun(t, 3, sent, told, 0, 3)
				for _, seq := range x.seqs {
					p.come(t, seq)
				}
				l := p.copied().s.Due()
				switch {
				case told < sent:
					if len(l) != sent-told || l[0].Seq != uint64(told)+1 || l[0].Ack != p.s.Taken() {
						t.Fatal(x.what, sent, told, l)
					}
				case x.owed:
					same(t, x.what, l, []api.Segment{{Ack: p.s.Taken()}})
				default:
					same(t, x.what, l, nil)
				}
				p.due(t)
				// Each of these tells Ack, so that it is owed no more.
				same(t, x.what, p.s.Due(), nil)
				p.held(t)
			}
		}
	}
}

// long is added to the number of a segment that is to be too long.
const long = 1 << 20

// come is a segment without an acknowledgement, of that number.
func (p *pair) come(t *testing.T, seq uint64) {
	t.Helper()
	if seq >= long && seq < 2*long {
		p.take(t, seq-long, 0, strings.Repeat("b", 1025))
		return
	}
	p.take(t, seq, 0, fmt.Sprint("taken ", seq))
}

// TestDueOwedWithALine: what waits behind those under way is no message to be sent.
func TestDueOwedWithALine(t *testing.T) {
	p := begun(t, 3, 12, 8, 0, 0)
	same(t, "Due", p.s.Due(), nil)
	p.take(t, 1, 0, "taken")
	same(t, "Due", p.copied().s.Due(), []api.Segment{{Ack: 1}})
	p.due(t)
	p.due(t)
	p.take(t, 2, 2, "taken, too")
	same(t, "Due", p.copied().s.Due(), []api.Segment{{Seq: 9, Ack: 2, Body: []byte(name(9))}, {Seq: 10, Ack: 2, Body: []byte(name(10))}})
	p.due(t)
	p.due(t)
	p.held(t)
}

// TestOwedIsToldByATick: what comes again has Ack as it is then, so that it is owed no more.
func TestOwedIsToldByATick(t *testing.T) {
	for _, seq := range []uint64{1, 2, greatest} {
		p := begun(t, 2, 2, 2, 0, 0)
		p.tick(t)
		p.take(t, seq, 0, "taken")
		l := p.copied().s.Tick()
		if len(l) != 2 || l[0].Ack != p.s.Taken() || l[1].Ack != p.s.Taken() {
			t.Fatal(seq, l)
		}
		p.tick(t)
		same(t, "Due", p.s.Due(), nil)
		p.take(t, 0, 2, "")
		same(t, "Due", p.s.Due(), nil)
		// It is owed at a tick at which nothing is told.
		p.take(t, 1, 0, "taken")
		same(t, "Tick", p.s.Tick(), nil)
		same(t, "Due", p.s.Due(), []api.Segment{{Ack: p.s.Taken()}})
	}
}

// TestAckAsItIs: in each segment, whether it is told first, or again, or has no message.
func TestAckAsItIs(t *testing.T) {
	p := both(t, 2)
	all := func(want uint64, n int, l []api.Segment) {
		t.Helper()
		if len(l) != n {
			t.Fatal(l)
		}
		for _, g := range l {
			if g.Ack != want {
				t.Fatal(l)
			}
		}
	}
	for n := range 3 {
		p.send(t, name(n+1))
	}
	all(0, 3, p.s.Due())
	p.s.Take(api.Segment{Seq: 1})
	all(1, 1, p.s.Due())
	p.s.Take(api.Segment{Seq: 2})
	all(2, 0, p.s.Tick())
	all(2, 3, p.s.Tick())
	p.s.Take(api.Segment{Seq: 3})
	p.s.Take(api.Segment{Seq: 9})
	p.s.Send(nil)
	all(3, 1, p.s.Due())
	p.s.Take(api.Segment{Seq: 4})
	all(4, 0, p.s.Tick())
	all(4, 4, p.s.Tick())
}

// P11.3

// acks are acknowledgements of each kind.
func (p *pair) acks() []uint64 {
	a, top, all := p.m.acked, p.top(), uint64(len(p.m.all))
	return []uint64{0, 1, a - 1, a, a + 1, a + 2, top - 1, top, top + 1, all - 1, all, all + 1, all + 9, 1 << 32, 1<<32 + a + 1, 1 << 63, 1<<63 + top, greatest - 1, greatest}
}

// seqs are numbers of each kind.
func (p *pair) seqs() []uint64 {
	n := uint64(len(p.m.got))
	return []uint64{0, 1, n - 1, n, n + 1, n + 2, n + 3, n + 9, 1 << 32, 1<<32 + n + 1, 1 << 63, 1<<63 + n + 1, greatest - 1, greatest}
}

// TestTake takes all of these from many a state on.
func TestTake(t *testing.T) {
	for _, x := range []struct{ sent, told, acked, taken int }{
		{0, 0, 0, 0}, {0, 0, 0, 1}, {0, 0, 0, 5}, {1, 0, 0, 0}, {1, 1, 0, 0}, {1, 1, 1, 0}, {3, 0, 0, 2}, {3, 1, 0, 2}, {3, 3, 0, 2}, {3, 3, 2, 2},
		{7, 7, 0, 1}, {8, 8, 0, 1}, {9, 8, 0, 1}, {20, 8, 0, 1}, {20, 11, 3, 3}, {20, 11, 5, 3}, {20, 11, 11, 3}, {40, 30, 24, 30}, {40, 30, 30, 30},
	} {
		p := begun(t, 3, x.sent, x.told, x.acked, x.taken)
		p.held(t)
		for _, ahead := range []int{0, 2} {
			for _, ack := range p.acks() {
				for _, seq := range p.seqs() {
					for _, n := range []int{0, 1, 1024, 1025} {
						q := p.copied()
						q.ticks(t, ahead)
						q.take(t, seq, ack, strings.Repeat("b", n))
						q.tick(t)
						q.due(t)
						q.tick(t)
						q.tick(t)
						q.looked(t)
					}
				}
			}
		}
		p.held(t)
	}
}

// TestWhatIsAcknowledged: just what was told by Due.
func TestWhatIsAcknowledged(t *testing.T) {
	for _, x := range []struct {
		sent, told, acked int
		ack, want         uint64
	}{
		{0, 0, 0, 0, 0}, {0, 0, 0, 1, 0}, {0, 0, 0, greatest, 0},
		{1, 0, 0, 1, 0}, {1, 1, 0, 1, 1}, {1, 1, 0, 2, 0}, {1, 1, 1, 1, 1}, {1, 1, 1, 0, 1}, {1, 1, 1, 2, 1},
		{5, 3, 0, 2, 2}, {5, 3, 0, 3, 3}, {5, 3, 0, 4, 0}, {5, 3, 0, 5, 0}, {5, 3, 0, 6, 0},
		{5, 3, 2, 1, 2}, {5, 3, 2, 0, 2}, {5, 3, 2, 3, 3}, {5, 3, 2, 4, 2}, {5, 3, 3, 4, 3},
		{12, 8, 0, 8, 8}, {12, 8, 0, 9, 0}, {12, 8, 0, 12, 0}, {12, 8, 0, 7, 7},
		{20, 12, 4, 12, 12}, {20, 12, 4, 13, 4}, {20, 12, 4, 4, 4}, {20, 12, 4, 3, 4}, {20, 12, 4, 5, 5}, {20, 12, 4, greatest, 4}, {20, 12, 4, 1<<63 + 5, 4},
	} {
		for _, seq := range []uint64{0, 1, 2, 9} {
			p := begun(t, 2, x.sent, x.told, x.acked, 0)
			b, n, is, e := p.s.Take(api.Segment{Seq: seq, Ack: x.ack, Body: []byte("body")})
			if n != x.want || is != (seq == 1) || e != api.OK || (string(b) == "body") != is || len(b) != 0 && !is {
				t.Errorf("%v: %q, %d, %t, %d", x, b, n, is, e)
			}
			looks(t, p.s, x.sent-int(x.want), x.want, map[bool]uint64{true: 1}[is])
		}
	}
}

// TestAckedWhileNoneWasTold: what stands in the line is not acknowledged by numbers that other messages had.
func TestAckedWhileNoneWasTold(t *testing.T) {
	p := begun(t, 2, 12, 8, 8, 0)
	for ack := range uint64(14) {
		p.take(t, 0, ack, "")
		looks(t, p.s, 4, 8, 0)
	}
	p.due(t)
	p.take(t, 0, 13, "")
	looks(t, p.s, 4, 8, 0)
	p.take(t, 0, 12, "")
	looks(t, p.s, 0, 12, 0)
	p.held(t)
}

// TestTakeInOrder: each once, whatever comes in between.
func TestTakeInOrder(t *testing.T) {
	s := made(t, 1)
	for n := uint64(1); n <= 50; n++ {
		for _, other := range []uint64{0, n - 1, n + 1, n + 2, n + 8, n + 1<<32, greatest} {
			if b, upto, is, e := s.Take(api.Segment{Seq: other, Body: []byte("other")}); b != nil || upto != 0 || is || e != api.OK {
				t.Fatal(n, other, b, upto, is, e)
			}
		}
		if b, upto, is, e := s.Take(api.Segment{Seq: n, Body: []byte(name(int(n)))}); string(b) != name(int(n)) || upto != 0 || !is || e != api.OK {
			t.Fatal(n, b, upto, is, e)
		}
		looks(t, s, 0, 0, n)
	}
}

func TestTakeBodies(t *testing.T) {
	for n, may := range lengths() {
		p := begun(t, 2, 2, 2, 0, 3)
		body := bytes.Repeat([]byte("b"), n)
		b, upto, is, e := p.copied().s.Take(api.Segment{Seq: 4, Ack: 1, Body: body})
		switch {
		case may && (!bytes.Equal(b, body) || upto != 1 || !is || e != api.OK):
			t.Error(n, len(b), upto, is, e)
		case !may && (b != nil || upto != 0 || is || e != api.ErrLong):
			t.Error(n, len(b), upto, is, e)
		}
		for _, seq := range p.seqs() {
			for _, ack := range p.acks() {
				q := p.copied()
				q.tick(t)
				q.take(t, seq, ack, string(body))
				q.held(t)
			}
		}
	}
}

func TestTakeNoBytes(t *testing.T) {
	s := made(t, 1)
	for n, body := range [][]byte{nil, {}, nil} {
		b, _, is, e := s.Take(api.Segment{Seq: uint64(n + 1), Body: body})
		if len(b) != 0 || !is || e != api.OK {
			t.Error(n, b, is, e)
		}
		looks(t, s, 0, 0, uint64(n+1))
	}
	same(t, "Due", s.Due(), []api.Segment{{Ack: 3}})
}

// TestBodyWithoutANumber: it is no message's.
func TestBodyWithoutANumber(t *testing.T) {
	p := begun(t, 2, 2, 2, 0, 0)
	if b, n, is, e := p.copied().s.Take(api.Segment{Ack: 1, Body: []byte("no message's")}); b != nil || n != 1 || is || e != api.OK {
		t.Error(b, n, is, e)
	}
	p.take(t, 0, 1, "no message's")
	same(t, "Due", p.s.Due(), nil)
	if b, n, is, e := p.copied().s.Take(api.Segment{Ack: 2, Body: make([]byte, 1025)}); b != nil || n != 0 || is || e != api.ErrLong {
		t.Error(b, n, is, e)
	}
	p.held(t)
}

// P11.4

// TestTicks: just so many behind what was told, or acknowledged, and each so many from then on.
func TestTicks(t *testing.T) {
	for _, again := range someTicks() {
		for what, do := range map[string]func(p *pair){
			"told":                 func(p *pair) { p.send(t, "one more"); p.due(t) },
			"acknowledged":         func(p *pair) { p.take(t, 0, p.m.acked+1, "") },
			"acknowledged, in one": func(p *pair) { p.take(t, 1, p.m.acked+1, "taken") },
			"told again":           func(p *pair) { p.ticks(t, again) },
		} {
			for ahead := range min(again, 6) {
				p := begun(t, again, 4, 4, 0, 0)
				p.ticks(t, ahead)
				if what == "told again" {
					p.ticks(t, again-ahead-1)
					if len(p.copied().s.Tick()) != 4 {
						t.Fatal(again, ahead)
					}
					p.tick(t)
				} else {
					do(p)
				}
				for round := range 3 {
					for n := 1; n <= again; n++ {
						l := p.copied().s.Tick()
						if n < again && len(l) != 0 || n == again && len(l) != p.m.left() {
							t.Fatalf("%s: again %d, ahead %d, round %d, tick %d: %v", what, again, ahead, round, n, l)
						}
						p.tick(t)
					}
				}
				p.held(t)
			}
		}
	}
}

// TestTicksForAll: each number of ticks that there may be.
func TestTicksForAll(t *testing.T) {
	for again := 1; again <= api.MaxTicks; again++ {
		s := made(t, again)
		s.Send([]byte("one"))
		s.Due()
		for n := 1; n <= 3*again+1; n++ {
			if got := len(s.Tick()); got != map[bool]int{true: 1}[n%again == 0] {
				t.Fatal(again, n, got)
			}
		}
	}
}

// TestWhatIsNotCountedAnew: what comes of nothing, and what is told without a message, are none of what is sent anew, or acknowledged.
func TestWhatIsNotCountedAnew(t *testing.T) {
	for what, do := range map[string]func(p *pair){
		"nothing":                      func(*pair) {},
		"an elder acknowledgement":     func(p *pair) { p.take(t, 0, 1, "") },
		"the last acknowledgement":     func(p *pair) { p.take(t, 0, 2, "") },
		"one above all":                func(p *pair) { p.take(t, 0, 6, "") },
		"the greatest":                 func(p *pair) { p.take(t, 0, greatest, "") },
		"one that is too long":         func(p *pair) { p.take(t, 1, 3, strings.Repeat("b", 1025)) },
		"a message":                    func(p *pair) { p.take(t, 1, 0, "taken") },
		"an acknowledgement that goes": func(p *pair) { p.take(t, 1, 0, "taken"); p.due(t) },
		"one that goes for no message": func(p *pair) { p.take(t, 7, 2, "taken"); p.due(t) },
		"nothing that is due":          func(p *pair) { p.due(t); p.due(t) },
		"one that is refused":          func(p *pair) { p.send(t, strings.Repeat("b", 1025)) },
		"looks":                        func(p *pair) { p.looked(t); p.held(t); p.copied() },
	} {
		for ahead := range 4 {
			p := begun(t, 4, 5, 5, 2, 0)
			p.ticks(t, ahead)
			do(p)
			for range 3 - ahead {
				if l := p.s.Tick(); len(l) != 0 {
					t.Fatal(what, ahead, l)
				}
			}
			if l := p.s.Tick(); len(l) != 3 || l[0].Seq != 3 || l[2].Seq != 5 {
				t.Fatal(what, ahead, l)
			}
		}
	}
}

// TestSentButNotTold: what was sent, but not told yet, is neither counted anew nor told by a tick.
func TestSentButNotTold(t *testing.T) {
	p := both(t, 3)
	p.send(t, "one")
	p.send(t, "two")
	for range 10 {
		if l := p.copied().s.Tick(); len(l) != 0 {
			t.Fatal(l)
		}
		p.tick(t)
	}
	// However many ticks went, all are still ahead of it.
	p.due(t)
	p.ticks(t, 2)
	p.send(t, "three")
	if l := p.copied().s.Tick(); len(l) != 2 {
		t.Fatal(l)
	}
	p.tick(t)
	same(t, "Due", p.copied().s.Due(), []api.Segment{{Seq: 3, Body: []byte("three")}})
	p.due(t)
	p.ticks(t, 2)
	if l := p.copied().s.Tick(); len(l) != 3 {
		t.Fatal(l)
	}
	p.held(t)
	// All that were told are acknowledged: of those behind them a tick tells none.
	p = begun(t, 2, 12, 8, 8, 0)
	p.ticks(t, 9)
	p.held(t)
}

// TestTicksAtWhichNoneWaits do not count.
func TestTicksAtWhichNoneWaits(t *testing.T) {
	for _, again := range someTicks() {
		for n := range min(2*again+2, 12) {
			p := both(t, again)
			for round := range 3 {
				// Ticks ahead of it, of which some were counted while one still waited.
				p.ticks(t, n)
				p.send(t, name(round))
				p.due(t)
				p.ticks(t, again-1)
				if l := p.copied().s.Tick(); len(l) != 1 {
					t.Fatal(again, n, l)
				}
				p.held(t)
				p.take(t, 0, uint64(round)+1, "")
				for range n {
					if l := p.copied().s.Tick(); len(l) != 0 {
						t.Fatal(again, n, l)
					}
					p.tick(t)
				}
			}
		}
	}
}

// TestWhatComesAgain: all that are under way and were told, in order, and no other ones.
func TestWhatComesAgain(t *testing.T) {
	for sent := range 12 {
		for told := range min(sent, 8) + 1 {
			for acked := range told + 1 {
				p := begun(t, 2, sent, told, acked, 0)
				var want []api.Segment
				for n := acked + 1; n <= told; n++ {
					want = append(want, api.Segment{Seq: uint64(n), Body: []byte(name(n))})
				}
				for range 3 {
					same(t, "Tick", p.copied().s.Tick(), nil)
					p.tick(t)
					same(t, "Tick", p.copied().s.Tick(), want)
					p.tick(t)
				}
				p.held(t)
			}
		}
	}
}

// P11.5

// TestLooks: behind each step, by numbers that stand here.
func TestLooks(t *testing.T) {
	s := made(t, 2)
	for i, x := range []struct {
		do           func()
		left         int
		acked, taken uint64
	}{
		{func() {}, 0, 0, 0},
		{func() { s.Send(nil) }, 1, 0, 0},
		{func() { s.Send([]byte("b")) }, 2, 0, 0},
		{func() { s.Send(make([]byte, 1025)) }, 2, 0, 0},
		{func() { s.Take(api.Segment{Ack: 1}) }, 2, 0, 0},
		{func() { s.Due() }, 2, 0, 0},
		{func() { s.Send(nil) }, 3, 0, 0},
		{func() { s.Take(api.Segment{Seq: 2, Ack: 3}) }, 3, 0, 0},
		{func() { s.Take(api.Segment{Seq: 1, Ack: 1}) }, 2, 1, 1},
		{func() { s.Tick() }, 2, 1, 1},
		{func() { s.Tick() }, 2, 1, 1},
		{func() { s.Take(api.Segment{Seq: 1, Ack: 1}) }, 2, 1, 1},
		{func() { s.Take(api.Segment{Seq: 2, Ack: 0}) }, 2, 1, 2},
		{func() { s.Take(api.Segment{Seq: 3, Ack: 2, Body: make([]byte, 1025)}) }, 2, 1, 2},
		{func() { s.Due() }, 2, 1, 2},
		{func() { s.Take(api.Segment{Seq: 3, Ack: 3}) }, 0, 3, 3},
		{func() { s.Take(api.Segment{Ack: 3}) }, 0, 3, 3},
		{func() { s.Send(nil) }, 1, 3, 3},
	} {
		x.do()
		// To look is no step.
		for range 2 {
			if s.Left() != x.left || s.Acked() != x.acked || s.Taken() != x.taken {
				t.Fatal(i, s.Left(), s.Acked(), s.Taken())
			}
		}
	}
}

// steps are what may be done to a stream, each of which another one might see.
func steps() map[string]func(*testing.T, *pair) {
	return map[string]func(*testing.T, *pair){
		"send":    func(t *testing.T, p *pair) { p.send(t, "one more") },
		"other":   func(t *testing.T, p *pair) { p.send(t, "another one") },
		"due":     func(t *testing.T, p *pair) { p.due(t) },
		"tick":    func(t *testing.T, p *pair) { p.tick(t) },
		"again":   func(t *testing.T, p *pair) { p.ticks(t, p.m.again) },
		"one":     func(t *testing.T, p *pair) { p.take(t, 0, p.m.acked+1, "") },
		"all":     func(t *testing.T, p *pair) { p.take(t, 0, p.top(), "") },
		"next":    func(t *testing.T, p *pair) { p.take(t, uint64(len(p.m.got))+1, 0, "taken") },
		"gone by": func(t *testing.T, p *pair) { p.take(t, uint64(len(p.m.got)), 0, "taken") },
		"anew": func(t *testing.T, p *pair) {
			p.take(t, 0, p.top(), "")
			for n := range 9 {
				p.send(t, fmt.Sprint("anew ", n))
			}
			p.due(t)
		},
	}
}

func TestCopy(t *testing.T) {
	for _, x := range []struct{ sent, told, acked, taken int }{{0, 0, 0, 0}, {1, 0, 0, 1}, {3, 3, 0, 0}, {5, 3, 2, 4}, {12, 9, 1, 0}, {12, 9, 9, 2}, {12, 12, 12, 2}} {
		for _, do := range steps() {
			for _, also := range steps() {
				p := begun(t, 3, x.sent, x.told, x.acked, x.taken)
				p.tick(t)
				q := p.copied()
				if p.s == q.s {
					t.Fatal("one and the same")
				}
				q.held(t)
				do(t, p)
				p.held(t)
				q.held(t)
				also(t, q)
				p.held(t)
				q.held(t)
				// A copy of a copy is apart, too.
				r := q.copied()
				do(t, q)
				also(t, r)
				for _, one := range []*pair{p, q, r} {
					one.held(t)
				}
			}
		}
	}
}

func TestCopyOfAFullOne(t *testing.T) {
	p := full(t, 8)
	q := p.copied()
	p.take(t, 0, 8, "")
	for range 8 {
		p.send(t, "one more")
	}
	for _, one := range []*pair{p, q} {
		if n, e := one.s.Send(nil); n != 0 || e != api.ErrFull {
			t.Error(n, e)
		}
		one.held(t)
	}
}

// Wrong inputs.

func TestMissing(t *testing.T) {
	for i, s := range missing() {
		// Twice: nothing that is done makes it one that is there.
		for range 2 {
			for _, body := range [][]byte{nil, {1}, make([]byte, 1024), make([]byte, 1025)} {
				if n, e := s.Send(body); n != 0 || e != api.ErrNil {
					t.Errorf("%d: Send: %d, %d", i, n, e)
				}
				for _, seq := range []uint64{0, 1, 2, greatest} {
					for _, ack := range []uint64{0, 1, greatest} {
						if b, n, is, e := s.Take(api.Segment{Seq: seq, Ack: ack, Body: body}); b != nil || n != 0 || is || e != api.ErrNil {
							t.Errorf("%d: Take: %v, %d, %t, %d", i, b, n, is, e)
						}
					}
				}
			}
			same(t, "Due", s.Due(), nil)
			for range api.MaxTicks + 2 {
				same(t, "Tick", s.Tick(), nil)
			}
			looks(t, s, 0, 0, 0)
			if c := s.Copy(); c != nil {
				t.Errorf("%d: Copy: %v", i, c)
			}
		}
	}
}

// P11.1 to P11.5, whatever is done.

// place is all that tells how a model goes on, but for bodies.
func (p *pair) place() string {
	m, owes := p.m, p.m.came > p.m.answered
	waited := 0
	if m.told[m.acked+1] {
		waited = m.now - m.news
	}
	return fmt.Sprint(len(m.all), m.acked, p.top(), len(m.got), owes, waited)
}

// from answers what comes of each step from p on.
func (p *pair) from(t *testing.T) []*pair {
	t.Helper()
	var l []*pair
	next := func(do func(q *pair)) {
		t.Helper()
		q := p.copied()
		do(q)
		l = append(l, q)
	}
	next(func(q *pair) { q.send(t, name(len(q.m.all))) })
	next(func(q *pair) { q.send(t, strings.Repeat("b", 1025)) })
	next(func(q *pair) { q.due(t) })
	next(func(q *pair) { q.tick(t) })
	for _, ack := range p.acks() {
		for _, seq := range []uint64{0, uint64(len(p.m.got)), uint64(len(p.m.got)) + 1, uint64(len(p.m.got)) + 2} {
			next(func(q *pair) { q.take(t, seq, ack, fmt.Sprint("taken ", seq)) })
		}
	}
	return l
}

// TestEachStepFromEach: each step from all that is reached by steps, till more than ten messages were sent, or more than one was taken.
func TestEachStepFromEach(t *testing.T) {
	for again := 1; again <= 3; again++ {
		p := both(t, again)
		left, been := []*pair{p}, map[string]bool{p.place(): true}
		for len(left) > 0 {
			p := left[0]
			left = left[1:]
			p.held(t)
			for _, q := range p.from(t) {
				at := q.place()
				if been[at] || len(q.m.all) > 10 || len(q.m.got) > 1 {
					continue
				}
				been[at] = true
				left = append(left, q)
			}
			p.looked(t)
		}
		// Of each number of messages, each that may be told and acknowledged; nothing was taken and nothing came, or something came again, or was taken, or was taken and told. Where some wait, each number of ticks.
		all := 0
		for sent := range 11 {
			for acked := range sent + 1 {
				for told := acked; told <= min(sent, acked+8); told++ {
					if told == acked {
						all += 4
					} else {
						all += 4 * again
					}
				}
			}
		}
		if len(been) != all {
			t.Error(again, len(been), all)
		}
	}
}

// chance tells numbers that look like no others: the same ones for each seed.
type chance uint32

func (c *chance) below(n int) int {
	*c = *c*1664525 + 1013904223
	return int(*c>>8) % n
}

// of is one of these.
func (c *chance) of(l []uint64) uint64 { return l[c.below(len(l))] }

// body is one of any length, mostly short.
func (c *chance) body() string {
	n := c.below(12)
	if c.below(20) == 0 {
		n = 1018 + c.below(9)
	}
	b := make([]byte, n)
	for i := range b {
		b[i] = byte(c.below(256))
	}
	return string(b)
}

// step does one thing by chance to one of several, and fails if it is not done to that one alone.
func (c *chance) step(t *testing.T, ps []*pair) {
	t.Helper()
	p := ps[c.below(len(ps))]
	switch what := c.below(100); {
	case what < 25:
		p.send(t, c.body())
	case what < 45:
		p.due(t)
	case what < 65:
		p.tick(t)
	case what < 70:
		p.take(t, c.of(p.seqs()), c.of(p.acks()), c.body())
	case what < 85:
		p.take(t, c.of(p.seqs()), p.m.acked+uint64(c.below(4)), c.body())
	case what < 97:
		p.take(t, uint64(len(p.m.got))+uint64(c.below(3)), p.top()-uint64(c.below(2)), c.body())
	default:
		ps[c.below(len(ps))] = p.copied()
	}
	for _, q := range ps {
		q.looked(t)
	}
}

func TestWhateverIsDone(t *testing.T) {
	acked, taken := 0, 0
	for seed := range 60 {
		c := chance(seed)
		ps := make([]*pair, 3)
		for i := range ps {
			ps[i] = both(t, 1+c.below(6))
		}
		for n := range 800 {
			c.step(t, ps)
			if n%20 == 0 {
				ps[c.below(len(ps))].held(t)
			}
		}
		for _, p := range ps {
			acked, taken = acked+int(p.m.acked), taken+len(p.m.got)
		}
	}
	// Rows in which hardly anything comes through would tell little.
	if acked < 2000 || taken < 2000 {
		t.Error(acked, taken)
	}
}

// P11.6

// two are the ends of a session, and all segments that either ever told: any of them may come, at any time, as often as it likes, or never.
type two struct {
	ends [2]*pair
	told [2][]api.Segment
}

func between(t *testing.T, again, other int) *two {
	t.Helper()
	return &two{ends: [2]*pair{both(t, again), both(t, other)}}
}

func (w *two) copied() *two {
	c := *w
	for i, p := range w.ends {
		c.ends[i] = p.copied()
	}
	return &c
}

// tell adds what is due at that end, or what a tick there tells, to all that it told: it answers that.
func (w *two) tell(t *testing.T, i int, tick bool) []api.Segment {
	t.Helper()
	p, l := w.ends[i], []api.Segment(nil)
	if tick {
		l = p.copied().s.Tick()
		p.tick(t)
	} else {
		l = p.copied().s.Due()
		p.due(t)
	}
	w.told[i] = slices.Clip(w.told[i])
	for _, g := range l {
		w.told[i] = append(w.told[i], g)
	}
	return l
}

// come lets a segment come to that end.
func (w *two) come(t *testing.T, i int, g api.Segment) {
	t.Helper()
	w.ends[i].take(t, g.Seq, g.Ack, string(g.Body))
	w.follows(t)
}

// follows fails if what the document says of both ends does not hold.
func (w *two) follows(t *testing.T) {
	t.Helper()
	for i, p := range w.ends {
		sent, got := p.m.all, w.ends[1-i].m.got
		if len(got) > len(sent) || !slices.Equal(got, sent[:len(got)]) {
			t.Fatalf("%q was taken of %q", got, sent)
		}
		if p.s.Acked() > w.ends[1-i].s.Taken() {
			t.Fatalf("%d acknowledged, %d taken", p.s.Acked(), w.ends[1-i].s.Taken())
		}
	}
}

// place tells how it goes on.
func (w *two) place() string {
	var b strings.Builder
	for i, p := range w.ends {
		var l []string
		for _, g := range w.told[i] {
			l = append(l, fmt.Sprint(g.Seq, g.Ack))
		}
		slices.Sort(l)
		fmt.Fprintln(&b, p.place(), slices.Compact(l))
	}
	return b.String()
}

// from answers what comes of each step, where each end sends at most so many messages.
func (w *two) from(t *testing.T, most [2]int) []*two {
	t.Helper()
	var l []*two
	next := func(do func(c *two)) {
		t.Helper()
		c := w.copied()
		do(c)
		c.follows(t)
		l = append(l, c)
	}
	for i, p := range w.ends {
		if len(p.m.all) < most[i] {
			next(func(c *two) { c.ends[i].send(t, fmt.Sprint(i, " ", name(len(c.ends[i].m.all)))) })
		}
		next(func(c *two) { c.tell(t, i, false) })
		next(func(c *two) { c.tell(t, i, true) })
		for _, g := range w.told[1-i] {
			next(func(c *two) { c.come(t, i, g) })
		}
	}
	return l
}

// TestAllWaysBetweenTwo goes all ways on which segments may be lost, be doubled, and come in another order.
func TestAllWaysBetweenTwo(t *testing.T) {
	for _, most := range [][2]int{{5, 0}, {2, 1}, {1, 2}, {0, 5}} {
		w := between(t, 1, 2)
		left, been, over := []*two{w}, map[string]bool{w.place(): true}, 0
		for len(left) > 0 {
			w := left[0]
			left = left[1:]
			for _, c := range w.from(t, most) {
				if at := c.place(); !been[at] {
					been[at] = true
					left = append(left, c)
				}
			}
			if w.over(most) {
				over++
			}
		}
		if over == 0 || len(been) < 1000 {
			t.Error(most, over, len(been))
		}
	}
}

// over: did all that there is come, and is it known?
func (w *two) over(most [2]int) bool {
	for i, p := range w.ends {
		if len(p.m.all) != most[i] || p.s.Left() != 0 || len(w.ends[1-i].m.got) != most[i] {
			return false
		}
	}
	return true
}

// TestSegmentsComeAgain: behind whatever was, both have all, as segments come again.
func TestSegmentsComeAgain(t *testing.T) {
	for seed := range 60 {
		c := chance(seed + 700)
		w := between(t, 1+c.below(5), 1+c.below(5))
		for range 3 {
			for range 150 {
				c.amid(t, w)
			}
			w.calm(t, func(api.Segment) bool { return c.below(3) == 0 })
		}
	}
}

// amid does one thing by chance between two.
func (c *chance) amid(t *testing.T, w *two) {
	t.Helper()
	i := c.below(2)
	switch what := c.below(20); {
	case what < 5:
		w.ends[i].send(t, fmt.Sprint(i, c.body()))
	case what < 8:
		w.tell(t, i, false)
	case what < 10:
		w.tell(t, i, true)
	case len(w.told[1-i]) > 0:
		// Mostly what was told lately.
		l := w.told[1-i]
		if c.below(4) > 0 {
			l = l[max(0, len(l)-10):]
		}
		w.come(t, i, l[c.below(len(l))])
	}
}

// calm lets both tick, and all come that is not lost, till nothing is left; it fails if that is too late.
func (w *two) calm(t *testing.T, lost func(api.Segment) bool) {
	t.Helper()
	for range 3000 {
		if w.over([2]int{len(w.ends[0].m.all), len(w.ends[1].m.all)}) {
			return
		}
		for i := range w.ends {
			for _, g := range append(w.tell(t, i, true), w.tell(t, i, false)...) {
				if !lost(g) {
					w.come(t, 1-i, g)
				}
			}
		}
	}
	t.Fatalf("left: %d, %d", w.ends[0].s.Left(), w.ends[1].s.Left())
}

// TestEachLostAtFirst: each segment is lost so often till it comes.
func TestEachLostAtFirst(t *testing.T) {
	for often := range 6 {
		w := between(t, 2, 3)
		for n := range 30 {
			w.ends[0].send(t, name(n))
			if n%2 == 0 {
				w.ends[1].send(t, "other "+name(n))
			}
		}
		times := map[string]int{}
		w.calm(t, func(g api.Segment) bool {
			at := fmt.Sprint(g.Seq, " ", string(g.Body))
			times[at]++
			return times[at]%(often+1) != 0
		})
	}
}

// TestNewOnesDoNotHoldUp: one that was lost comes again, though the other end says something at each tick, and there is always more to send.
func TestNewOnesDoNotHoldUp(t *testing.T) {
	for again := 1; again <= 5; again++ {
		w := between(t, again, 1)
		for n := range 40 {
			w.ends[0].send(t, name(n))
			w.ends[1].send(t, "other "+name(n))
			for i := range w.ends {
				for _, g := range append(w.tell(t, i, true), w.tell(t, i, false)...) {
					// The first one is lost as long as there is room under way.
					if i == 1 || g.Seq != 1 || n >= 8 {
						w.come(t, 1-i, g)
					}
				}
			}
		}
		if w.ends[1].s.Taken() < 30 {
			t.Error(again, w.ends[1].s.Taken())
		}
	}
}
