package adj

import (
	"fmt"
	"math"
	"slices"
	"testing"

	"guidepost/api"
)

const greatest = uint64(math.MaxUint64)

// model is an adjacency worked out in another way than the program's: tags are compared as texts, silence is told by the times of two ticks, and what is up is the text of a session, which is up as long as it is the one that there is.
type model struct {
	node        int
	boot        uint64
	every, dead int
	// Ticks since it began, till now, and till it heard its neighbour last.
	now, heard int
	tries      uint64
	peer       int
	theirs     api.Tag
	up         string
}

// text is a tag as a text that stands ahead of those of newer ones.
func text(t api.Tag) string { return fmt.Sprintf("%020d.%020d", t.Boot, t.Try) }

func (m *model) mine() api.Tag { return api.Tag{Boot: m.boot, Try: 1 + m.tries} }

func (m *model) session() string { return fmt.Sprint(m.peer, " ", m.mine(), " ", m.theirs) }

func (m *model) isUp() bool { return m.up == m.session() }

func (m *model) view() api.AdjView {
	v := api.AdjView{State: api.AdjIsHeard, Mine: m.mine(), Theirs: m.theirs, Node: m.peer}
	if m.peer == 0 {
		v.State = api.AdjIsDown
	}
	if m.isUp() {
		v.State = api.AdjIsUp
	}
	return v
}

// anew answers whether it was up.
func (m *model) anew() bool {
	up := m.isUp()
	m.tries, m.peer, m.theirs = m.tries+1, 0, api.Tag{}
	return up
}

// told is AdjDown, if that is so.
func told(down bool) api.AdjEvent {
	if down {
		return api.AdjDown
	}
	return api.AdjNone
}

// good are the nodes that there may be.
func good() []int { return []int{1, 2, 3, 4, 5, 6, 7, 8, 9, 10, 11, 12, 13, 14, 15, 16} }

func (m *model) hear(h api.Hello) (api.AdjEvent, api.Errno) {
	if !slices.Contains(good(), h.Node) || h.Mine.Boot == 0 || h.Mine.Try == 0 {
		return api.AdjNone, api.ErrArg
	}
	if h.Node == m.node {
		return api.AdjNone, api.OK
	}
	down := false
	if m.peer != 0 {
		if h.Node != m.peer {
			down = m.anew()
			m.peer, m.theirs = h.Node, h.Mine
		} else if text(h.Mine) < text(m.theirs) {
			return api.AdjNone, api.OK
		} else if text(h.Mine) > text(m.theirs) {
			down = m.isUp()
			m.theirs = h.Mine
		}
	}
	if m.peer == 0 {
		m.peer, m.theirs = h.Node, h.Mine
	}
	m.heard = m.now
	if text(h.Heard) == text(m.mine()) && !m.isUp() {
		m.up = m.session()
		return api.AdjUp, api.OK
	}
	return told(down), api.OK
}

func (m *model) tick() (api.AdjEvent, bool) {
	m.now++
	down := false
	if m.peer != 0 && m.now == m.heard+m.dead {
		down = m.anew()
	}
	return told(down), m.now%m.every == 1%m.every
}

func (m *model) say() api.Hello {
	return api.Hello{Node: m.node, Mine: m.mine(), Heard: m.theirs}
}

func (m *model) copied() *model {
	c := *m
	return &c
}

func tag(boot, try uint64) api.Tag { return api.Tag{Boot: boot, Try: try} }

func hello(node int, mine, heard api.Tag) api.Hello {
	return api.Hello{Node: node, Mine: mine, Heard: heard}
}

func made(t *testing.T, node int, boot uint64, every, dead int) *Adj {
	t.Helper()
	x, e := New(node, boot, every, dead)
	if x == nil || e != api.OK {
		t.Fatalf("New(%d, %d, %d, %d): %v, %d", node, boot, every, dead, x, e)
	}
	return x
}

// both are an adjacency and a model of it.
func both(t *testing.T, node int, boot uint64, every, dead int) (*Adj, *model) {
	t.Helper()
	return made(t, node, boot, every, dead), &model{node: node, boot: boot, every: every, dead: dead}
}

// seen fails if it has anything else than v, or says anything else.
func seen(t *testing.T, x *Adj, node int, v api.AdjView) {
	t.Helper()
	if got := x.View(); got != v {
		t.Fatalf("View: %v, not %v", got, v)
	}
	if got, e := x.Say(); got != hello(node, v.Mine, v.Theirs) || e != api.OK {
		t.Fatalf("Say: %v, %d of %v", got, e, v)
	}
	accepted(t, x, v)
}

// around are a tag, and others that are nearly that.
func around(g api.Tag) []api.Tag {
	return []api.Tag{g, tag(g.Boot+1, g.Try), tag(g.Boot-1, g.Try), tag(g.Boot, g.Try+1), tag(g.Boot, g.Try-1), tag(g.Try, g.Boot), {}}
}

// accepted fails if it accepts anything but what v says, where v is what it has.
func accepted(t *testing.T, x *Adj, v api.AdjView) {
	t.Helper()
	for _, node := range []int{v.Node, v.Node + 1, v.Node - 1, -v.Node, 0} {
		for _, mine := range append(around(v.Mine), v.Theirs) {
			for _, theirs := range append(around(v.Theirs), v.Mine) {
				want := v.State == api.AdjIsUp && node == v.Node && mine == v.Mine && theirs == v.Theirs
				if x.Accepts(node, mine, theirs) != want {
					t.Fatalf("Accepts(%d, %v, %v) of %v: not %t", node, mine, theirs, v, want)
				}
			}
		}
	}
}

// held fails if anything that x tells, now or at ticks that come, is another thing than what m does.
func held(t *testing.T, x *Adj, m *model) {
	t.Helper()
	seen(t, x, m.node, m.view())
	y, n := x.Copy(), m.copied()
	for range m.dead + m.every + 1 {
		tick(t, y, n)
	}
	if x.View() != m.view() {
		t.Fatalf("a copy's ticks: %v, not %v", x.View(), m.view())
	}
}

// hear, tick and drop do the same to both, and fail if these do not answer the same.
func hear(t *testing.T, x *Adj, m *model, h api.Hello) {
	t.Helper()
	was := m.view()
	want, bad := m.hear(h)
	if got, e := x.Hear(h); got != want || e != bad || x.View() != m.view() {
		t.Fatalf("%v: Hear(%v): %d, %d, %v, not %d, %d, %v", was, h, got, e, x.View(), want, bad, m.view())
	}
}

func tick(t *testing.T, x *Adj, m *model) {
	t.Helper()
	was := m.view()
	want, is := m.tick()
	if got, due := x.Tick(); got != want || due != is || x.View() != m.view() {
		t.Fatalf("%v: Tick: %d, %t, %v, not %d, %t, %v", was, got, due, x.View(), want, is, m.view())
	}
}

func drop(t *testing.T, x *Adj, m *model) {
	t.Helper()
	was := m.view()
	want := told(m.anew())
	if got := x.Drop(); got != want || x.View() != m.view() {
		t.Fatalf("%v: Drop: %d, %v, not %d, %v", was, got, x.View(), want, m.view())
	}
}

// missing are adjacencies that are not there, and zero ones.
func missing() []*Adj { return []*Adj{nil, {}, new(Adj)} }

// What those of inState have: their own node, boot, every and dead, and of the neighbour its node.
const own, ownBoot, every, dead, peer = 5, 7, 4, 6, 9

// peerTag is the neighbour's tag there.
func peerTag() api.Tag { return tag(4, 6) }

// ownTag is their own one, of so many tries. They tried anew twice.
func ownTag(try uint64) api.Tag { return tag(ownBoot, try) }

func states() []api.AdjState {
	return []api.AdjState{api.AdjIsDown, api.AdjIsHeard, api.AdjIsUp}
}

// inState is one in that state, that was in no other one but those ahead of it.
func inState(t *testing.T, s api.AdjState) *Adj {
	t.Helper()
	x := made(t, own, ownBoot, every, dead)
	for range 2 {
		if e := x.Drop(); e != api.AdjNone {
			t.Fatal(e)
		}
	}
	if s >= api.AdjIsHeard {
		heard(t, x, hello(peer, peerTag(), api.Tag{}), api.AdjNone)
	}
	if s >= api.AdjIsUp {
		heard(t, x, hello(peer, peerTag(), ownTag(3)), api.AdjUp)
	}
	return x
}

// heard fails if anything but that event comes of that hello.
func heard(t *testing.T, x *Adj, h api.Hello, want api.AdjEvent) {
	t.Helper()
	was := x.View()
	if got, e := x.Hear(h); got != want || e != api.OK {
		t.Fatalf("%v: Hear(%v): %d, %d, not %d", was, h, got, e, want)
	}
}

// ticked fails if anything but that event comes of one of n ticks.
func ticked(t *testing.T, x *Adj, n int, want api.AdjEvent) {
	t.Helper()
	for i := range n {
		was := x.View()
		if got, _ := x.Tick(); got != want {
			t.Fatalf("%v: Tick %d: %d, not %d", was, i, got, want)
		}
	}
}

// What one in a state may have.

func isDown(try uint64) api.AdjView { return api.AdjView{Mine: ownTag(try)} }

func isHeard(try uint64, node int, theirs api.Tag) api.AdjView {
	return api.AdjView{State: api.AdjIsHeard, Mine: ownTag(try), Theirs: theirs, Node: node}
}

func isUp(try uint64, node int, theirs api.Tag) api.AdjView {
	return api.AdjView{State: api.AdjIsUp, Mine: ownTag(try), Theirs: theirs, Node: node}
}

// as is what one of inState has.
func as(s api.AdjState) api.AdjView {
	return []api.AdjView{isDown(3), isHeard(3, peer, peerTag()), isUp(3, peer, peerTag())}[s]
}

func TestTheStatesThatTestsBeginWith(t *testing.T) {
	for _, s := range states() {
		seen(t, inState(t, s), own, as(s))
	}
}

// P10.1

func TestNew(t *testing.T) {
	nodes := map[int]bool{math.MinInt: false, -16: false, -1: false, 0: false, 1: true, 2: true, 15: true, api.MaxNodes: true, api.MaxNodes + 1: false, 257: false, 1<<32 + 1: false, math.MaxInt: false}
	boots := map[uint64]bool{0: false, 1: true, 2: true, 1 << 32: true, 1 << 63: true, greatest - 1: true, greatest: true}
	ticks := map[int]bool{math.MinInt: false, -100: false, -1: false, 0: false, 1: true, 2: true, 99: true, api.MaxTicks: true, api.MaxTicks + 1: false, 257: false, 1<<32 + 1: false, math.MaxInt: false}
	for node, is := range nodes {
		for boot, may := range boots {
			for every, some := range ticks {
				for dead, goes := range ticks {
					x, e := New(node, boot, every, dead)
					if !is || !may || !some || !goes {
						if x != nil || e != api.ErrArg {
							t.Fatalf("New(%d, %d, %d, %d): %v, %d", node, boot, every, dead, x, e)
						}
						continue
					}
					if e != api.OK {
						t.Fatalf("New(%d, %d, %d, %d): %d", node, boot, every, dead, e)
					}
					held(t, x, &model{node: node, boot: boot, every: every, dead: dead})
				}
			}
		}
	}
}

func TestNewOnesAreDown(t *testing.T) {
	for node := 1; node <= api.MaxNodes; node++ {
		for _, boot := range []uint64{1, 7, greatest} {
			seen(t, made(t, node, boot, 3, 4), node, api.AdjView{State: api.AdjIsDown, Mine: tag(boot, 1)})
		}
	}
}

func TestNewEachApart(t *testing.T) {
	x, y := made(t, own, ownBoot, every, dead), made(t, own, ownBoot, every, dead)
	heard(t, x, hello(peer, peerTag(), ownTag(1)), api.AdjUp)
	seen(t, y, own, isDown(1))
	y.Drop()
	seen(t, x, own, isUp(1, peer, peerTag()))
	seen(t, y, own, isDown(2))
}

func TestSayBehindEachStep(t *testing.T) {
	x := made(t, own, ownBoot, every, dead)
	for i, step := range []struct {
		do   func()
		want api.Hello
	}{
		{func() {}, hello(own, ownTag(1), api.Tag{})},
		{func() { x.Hear(hello(peer, peerTag(), api.Tag{})) }, hello(own, ownTag(1), peerTag())},
		{func() { x.Hear(hello(peer, peerTag(), ownTag(1))) }, hello(own, ownTag(1), peerTag())},
		{func() { x.Tick() }, hello(own, ownTag(1), peerTag())},
		{func() { x.Hear(hello(peer, tag(4, 7), api.Tag{})) }, hello(own, ownTag(1), tag(4, 7))},
		{func() { x.Hear(hello(11, tag(1, 1), api.Tag{})) }, hello(own, ownTag(2), tag(1, 1))},
		{func() { x.Drop() }, hello(own, ownTag(3), api.Tag{})},
	} {
		step.do()
		// To say it is no step: it may be said again.
		for range 2 {
			if got, e := x.Say(); got != step.want || e != api.OK {
				t.Fatalf("%d: %v, %d, not %v", i, got, e, step.want)
			}
		}
	}
}

func TestWhatIsToldIsTheCallers(t *testing.T) {
	for _, s := range states() {
		x := inState(t, s)
		v := x.View()
		v.State, v.Mine.Try, v.Theirs.Boot, v.Node = v.State+1, v.Mine.Try+1, v.Theirs.Boot+1, v.Node+1
		h, _ := x.Say()
		h.Node, h.Mine.Try, h.Heard.Boot = h.Node+1, h.Mine.Try+1, h.Heard.Boot+1
		seen(t, x, own, as(s))
	}
}

// P10.2

func TestExample(t *testing.T) {
	a, b := made(t, 1, 5, 3, 4), made(t, 2, 7, 3, 4)
	say := func(from, to *Adj, want api.AdjEvent) {
		t.Helper()
		h, e := from.Say()
		if e != api.OK {
			t.Fatal(e)
		}
		heard(t, to, h, want)
	}
	one, two := tag(5, 1), tag(7, 1)
	say(a, b, api.AdjNone)
	seen(t, a, 1, api.AdjView{Mine: one})
	seen(t, b, 2, api.AdjView{State: api.AdjIsHeard, Mine: two, Theirs: one, Node: 1})
	say(b, a, api.AdjUp)
	seen(t, a, 1, api.AdjView{State: api.AdjIsUp, Mine: one, Theirs: two, Node: 2})
	seen(t, b, 2, api.AdjView{State: api.AdjIsHeard, Mine: two, Theirs: one, Node: 1})
	say(a, b, api.AdjUp)
	seen(t, b, 2, api.AdjView{State: api.AdjIsUp, Mine: two, Theirs: one, Node: 1})
}

// hearing is a hello, and what comes of it in each state.
type hearing struct {
	hello  api.Hello
	events [3]api.AdjEvent
	views  [3]api.AdjView
}

func nothing() [3]api.AdjEvent { return [3]api.AdjEvent{} }

// others are tags that Mine is not, nor will be at the next try.
func others() []api.Tag {
	return []api.Tag{{}, ownTag(2), ownTag(1), ownTag(5), tag(ownBoot-1, 3), tag(ownBoot+1, 3), tag(3, ownBoot), tag(ownBoot, 0), tag(0, 3), peerTag(), tag(greatest, greatest)}
}

// fromItself are hellos of this node, of which nothing comes.
func fromItself() []hearing {
	var l []hearing
	for _, mine := range []api.Tag{peerTag(), tag(4, 7), tag(1, 1), ownTag(3), ownTag(2), ownTag(9)} {
		for _, h := range append(others(), ownTag(3), ownTag(4)) {
			l = append(l, hearing{hello(own, mine, h), nothing(), [3]api.AdjView{as(0), as(1), as(2)}})
		}
	}
	return l
}

// again are hellos of the neighbour with the tag that is known.
func again() []hearing {
	up := isUp(3, peer, peerTag())
	l := []hearing{{hello(peer, peerTag(), ownTag(3)), [3]api.AdjEvent{api.AdjUp, api.AdjUp, api.AdjNone}, [3]api.AdjView{up, up, up}}}
	for _, h := range append(others(), ownTag(4)) {
		l = append(l, hearing{hello(peer, peerTag(), h), nothing(), [3]api.AdjView{as(1), as(1), as(2)}})
	}
	return l
}

// newer are hellos of the neighbour with another tag, that is newer by its boot, or by its try.
func newer() []hearing {
	var l []hearing
	for _, mine := range []api.Tag{tag(4, 7), tag(4, greatest), tag(5, 6), tag(5, 1), tag(5, 7), tag(6, 4), tag(greatest, 1), tag(1<<63, 6), ownTag(3)} {
		up, is := isUp(3, peer, mine), isHeard(3, peer, mine)
		l = append(l, hearing{hello(peer, mine, ownTag(3)), [3]api.AdjEvent{api.AdjUp, api.AdjUp, api.AdjUp}, [3]api.AdjView{up, up, up}})
		for _, h := range append(others(), ownTag(4)) {
			l = append(l, hearing{hello(peer, mine, h), [3]api.AdjEvent{api.AdjNone, api.AdjNone, api.AdjDown}, [3]api.AdjView{is, is, is}})
		}
	}
	return l
}

// late are hellos of the neighbour with another tag, that is elder by its boot, or by its try.
func late() []hearing {
	var l []hearing
	for _, mine := range []api.Tag{tag(4, 5), tag(4, 1), tag(3, 6), tag(3, 7), tag(3, greatest), tag(3, 1), tag(1, 1), tag(1, 6)} {
		// It is elder than nothing where nothing was heard.
		l = append(l, hearing{hello(peer, mine, ownTag(3)), [3]api.AdjEvent{api.AdjUp, api.AdjNone, api.AdjNone}, [3]api.AdjView{isUp(3, peer, mine), as(1), as(2)}})
		for _, h := range append(others(), ownTag(4)) {
			l = append(l, hearing{hello(peer, mine, h), nothing(), [3]api.AdjView{isHeard(3, peer, mine), as(1), as(2)}})
		}
	}
	return l
}

// strange are hellos of another node than the neighbour.
func strange() []hearing {
	var l []hearing
	for _, node := range []int{1, 8, 10, api.MaxNodes} {
		for _, mine := range []api.Tag{peerTag(), tag(4, 5), tag(4, 7), tag(3, 9), tag(1, 1), tag(9, 9), tag(greatest, greatest), ownTag(3), ownTag(4)} {
			up, is, next := isUp(3, node, mine), isHeard(3, node, mine), isHeard(4, node, mine)
			l = append(l,
				// It heard the tag that is given up by this very hello.
				hearing{hello(node, mine, ownTag(3)), [3]api.AdjEvent{api.AdjUp, api.AdjNone, api.AdjDown}, [3]api.AdjView{up, next, next}},
				// It heard the tag that comes about by this very hello.
				hearing{hello(node, mine, ownTag(4)), [3]api.AdjEvent{api.AdjNone, api.AdjUp, api.AdjUp}, [3]api.AdjView{is, isUp(4, node, mine), isUp(4, node, mine)}})
			for _, h := range others() {
				l = append(l, hearing{hello(node, mine, h), [3]api.AdjEvent{api.AdjNone, api.AdjNone, api.AdjDown}, [3]api.AdjView{is, next, next}})
			}
		}
	}
	return l
}

func TestHearInEachState(t *testing.T) {
	for _, hs := range [][]hearing{fromItself(), again(), newer(), late(), strange()} {
		for _, h := range hs {
			for _, s := range states() {
				x := inState(t, s)
				heard(t, x, h.hello, h.events[s])
				if x.View() != h.views[s] {
					t.Fatalf("%v: Hear(%v): %v, not %v", as(s), h.hello, x.View(), h.views[s])
				}
				seen(t, x, own, h.views[s])
			}
		}
	}
}

// refused are hellos that may not be.
func refused() []api.Hello {
	var l []api.Hello
	for _, h := range []api.Tag{{}, ownTag(3), ownTag(4), ownTag(2)} {
		for _, node := range []int{math.MinInt, -peer, -1, 0, api.MaxNodes + 1, 256 + peer, 1<<32 + peer, math.MaxInt} {
			l = append(l, hello(node, peerTag(), h), hello(node, api.Tag{}, h), hello(node, tag(5, 1), h))
		}
		for _, node := range []int{1, own, peer, api.MaxNodes} {
			for _, n := range []uint64{1, 4, 6, 7, greatest} {
				l = append(l, hello(node, tag(n, 0), h), hello(node, tag(0, n), h))
			}
			l = append(l, hello(node, api.Tag{}, h))
		}
	}
	return l
}

func TestRefusedHellos(t *testing.T) {
	for _, s := range states() {
		x, m := inState(t, s), inModel(s)
		for _, h := range refused() {
			if got, e := x.Hear(h); got != api.AdjNone || e != api.ErrArg {
				t.Fatalf("%v: Hear(%v): %d, %d", as(s), h, got, e)
			}
			held(t, x, m)
		}
	}
}

// inModel is the model of what inState makes.
func inModel(s api.AdjState) *model {
	m := &model{node: own, boot: ownBoot, every: every, dead: dead, tries: 2}
	if s >= api.AdjIsHeard {
		m.peer, m.theirs = peer, peerTag()
	}
	if s >= api.AdjIsUp {
		m.up = m.session()
	}
	return m
}

// TestHeardThatMayBeNoTag: of what a hello heard nothing is asked.
func TestHeardThatMayBeNoTag(t *testing.T) {
	for _, h := range []api.Tag{tag(0, 1), tag(1, 0), tag(0, greatest), tag(greatest, 0), tag(ownBoot, 0), tag(0, 3)} {
		for _, s := range states() {
			x := inState(t, s)
			heard(t, x, hello(peer, peerTag(), h), api.AdjNone)
			seen(t, x, own, as(max(s, api.AdjIsHeard)))
		}
	}
}

func TestEachNodeIsHeard(t *testing.T) {
	for node := 1; node <= api.MaxNodes; node++ {
		for from := 1; from <= api.MaxNodes; from++ {
			x := made(t, node, ownBoot, every, dead)
			if from == node {
				heard(t, x, hello(from, peerTag(), ownTag(1)), api.AdjNone)
				seen(t, x, node, isDown(1))
				continue
			}
			heard(t, x, hello(from, peerTag(), api.Tag{}), api.AdjNone)
			seen(t, x, node, isHeard(1, from, peerTag()))
			heard(t, x, hello(from, peerTag(), ownTag(1)), api.AdjUp)
			seen(t, x, node, isUp(1, from, peerTag()))
		}
	}
}

func TestUpAndHeardAgain(t *testing.T) {
	x := inState(t, api.AdjIsUp)
	for range 3 {
		for _, h := range []api.Tag{ownTag(3), {}, ownTag(2), ownTag(3)} {
			heard(t, x, hello(peer, peerTag(), h), api.AdjNone)
			seen(t, x, own, as(api.AdjIsUp))
		}
	}
}

func TestGreatestTags(t *testing.T) {
	x := made(t, own, greatest, every, dead)
	for i, h := range []struct {
		mine api.Tag
		want api.AdjEvent
	}{
		{tag(1, greatest), api.AdjUp},
		{tag(1<<63-1, greatest), api.AdjUp},
		{tag(1<<63, 1), api.AdjUp},
		{tag(1<<63-1, greatest), api.AdjNone},
		{tag(1<<63, 1<<63), api.AdjUp},
		{tag(1<<63, 1<<63-1), api.AdjNone},
		{tag(greatest, 1), api.AdjUp},
		{tag(greatest-1, greatest), api.AdjNone},
		{tag(greatest, greatest), api.AdjUp},
		{tag(greatest, greatest-1), api.AdjNone},
		{tag(1, 1), api.AdjNone},
	} {
		got, e := x.Hear(hello(peer, h.mine, tag(greatest, 1)))
		if got != h.want || e != api.OK || x.View().Mine != tag(greatest, 1) || (x.View().Theirs == h.mine) != (h.want == api.AdjUp) {
			t.Fatalf("%d: %d, %d, %v", i, got, e, x.View())
		}
	}
}

// P10.3

// someTicks are numbers of ticks that a timer may have.
func someTicks() []int { return []int{1, 2, 3, 4, 7, 50, api.MaxTicks - 1, api.MaxTicks} }

func TestSilence(t *testing.T) {
	for _, dead := range someTicks() {
		for _, s := range []api.AdjState{api.AdjIsHeard, api.AdjIsUp} {
			x := made(t, own, ownBoot, 3, dead)
			// Ticks while it is down do not count.
			ticked(t, x, dead+1, api.AdjNone)
			heard(t, x, hello(peer, peerTag(), api.Tag{}), api.AdjNone)
			ticked(t, x, dead-1, api.AdjNone)
			if s == api.AdjIsUp {
				heard(t, x, hello(peer, peerTag(), ownTag(1)), api.AdjUp)
				ticked(t, x, dead-1, api.AdjNone)
			}
			v := x.View()
			if v.State != s || v.Node != peer {
				t.Fatal(dead, v)
			}
			ticked(t, x, 1, told(s == api.AdjIsUp))
			seen(t, x, own, isDown(2))
			// Silence at which it went down is none of its next one's.
			ticked(t, x, 2*dead, api.AdjNone)
			seen(t, x, own, isDown(2))
			heard(t, x, hello(peer, peerTag(), ownTag(2)), api.AdjUp)
			ticked(t, x, dead-1, api.AdjNone)
			seen(t, x, own, isUp(2, peer, peerTag()))
			ticked(t, x, 1, api.AdjDown)
			seen(t, x, own, isDown(3))
		}
	}
}

// TestSilenceCountedAnew: by each hello that counts, and by none of which nothing comes.
func TestSilenceCountedAnew(t *testing.T) {
	var counts, not []api.Hello
	for _, h := range append(others(), ownTag(3), ownTag(4)) {
		counts = append(counts, hello(peer, peerTag(), h), hello(peer, tag(4, 7), h), hello(peer, tag(5, 1), h), hello(11, tag(1, 1), h), hello(11, peerTag(), h), hello(11, tag(9, 9), h))
		not = append(not, hello(own, peerTag(), h), hello(own, tag(9, 9), h), hello(peer, tag(4, 5), h), hello(peer, tag(3, 9), h), hello(peer, tag(1, 1), h))
	}
	not = append(not, refused()...)
	for _, s := range []api.AdjState{api.AdjIsHeard, api.AdjIsUp} {
		for ahead := range dead {
			for _, h := range counts {
				x := inState(t, s)
				ticked(t, x, ahead, api.AdjNone)
				x.Hear(h)
				v := x.View()
				ticked(t, x, dead-1, api.AdjNone)
				seen(t, x, own, v)
				ticked(t, x, 1, told(v.State == api.AdjIsUp))
				seen(t, x, own, isDown(v.Mine.Try+1))
			}
			for _, h := range not {
				x := inState(t, s)
				ticked(t, x, ahead, api.AdjNone)
				x.Hear(h)
				ticked(t, x, dead-1-ahead, api.AdjNone)
				seen(t, x, own, as(s))
				ticked(t, x, 1, told(s == api.AdjIsUp))
				seen(t, x, own, isDown(4))
			}
		}
	}
}

// TestSilenceIsNotSaid: what it says, and what is looked at, does not count as heard.
func TestSilenceIsNotSaid(t *testing.T) {
	x := inState(t, api.AdjIsUp)
	for range dead - 1 {
		ticked(t, x, 1, api.AdjNone)
		x.Say()
		x.Copy()
		x.Accepts(peer, ownTag(3), peerTag())
		seen(t, x, own, as(api.AdjIsUp))
	}
	ticked(t, x, 1, api.AdjDown)
	seen(t, x, own, isDown(4))
}

func TestTicksWhileDown(t *testing.T) {
	for _, dead := range []int{1, 2, 5, api.MaxTicks} {
		x := made(t, own, ownBoot, every, dead)
		for n := range 3*dead + 2 {
			y := x.Copy()
			// However long it was down, all of dead is still ahead.
			heard(t, y, hello(peer, peerTag(), api.Tag{}), api.AdjNone)
			ticked(t, y, dead-1, api.AdjNone)
			seen(t, y, own, isHeard(1, peer, peerTag()))
			ticked(t, y, 1, api.AdjNone)
			seen(t, y, own, isDown(2))
			ticked(t, x, 1, api.AdjNone)
			if x.View() != isDown(1) {
				t.Fatal(n, x.View())
			}
		}
	}
}

// TestDue: at the first tick, and each so many from then on, whatever else is done.
func TestDue(t *testing.T) {
	between := map[string]func(*Adj, int){
		"nothing": func(*Adj, int) {},
		"Drop":    func(x *Adj, _ int) { x.Drop() },
		"Say":     func(x *Adj, _ int) { x.Say() },
		"Hear":    func(x *Adj, _ int) { x.Hear(hello(peer, peerTag(), x.View().Mine)) },
		"newer":   func(x *Adj, n int) { x.Hear(hello(peer, tag(4, uint64(n)+1), x.View().Mine)) },
		"other":   func(x *Adj, n int) { x.Hear(hello(6+n%8, peerTag(), x.View().Mine)) },
		"at times": func(x *Adj, n int) {
			if n%7 == 2 {
				x.Hear(hello(peer, peerTag(), x.View().Mine))
			}
		},
		"refused": func(x *Adj, _ int) { x.Hear(hello(0, peerTag(), x.View().Mine)) },
		"itself":  func(x *Adj, _ int) { x.Hear(hello(own, peerTag(), x.View().Mine)) },
	}
	for what, do := range between {
		for _, every := range someTicks() {
			for _, dead := range someTicks() {
				x, left := made(t, own, ownBoot, every, dead), 0
				for n := range 3*every + dead {
					do(x, n)
					if _, due := x.Tick(); due != (left == 0) {
						t.Fatalf("%s: every %d, dead %d: tick %d: %t", what, every, dead, n, due)
					}
					if left == 0 {
						left = every
					}
					left--
				}
			}
		}
	}
}

// TestDownAtAHelloThatIsDue: both come of one tick.
func TestDownAtAHelloThatIsDue(t *testing.T) {
	for _, x := range []struct {
		every, dead int
		due         bool
	}{{1, 1, true}, {1, 3, true}, {2, 2, false}, {2, 3, true}, {3, 3, false}, {3, 4, true}, {api.MaxTicks, api.MaxTicks, false}, {api.MaxTicks - 1, api.MaxTicks, true}} {
		a := made(t, own, ownBoot, x.every, x.dead)
		heard(t, a, hello(peer, peerTag(), ownTag(1)), api.AdjUp)
		ticked(t, a, x.dead-1, api.AdjNone)
		if e, due := a.Tick(); e != api.AdjDown || due != x.due {
			t.Errorf("every %d, dead %d: %d, %t", x.every, x.dead, e, due)
		}
		seen(t, a, own, isDown(2))
	}
}

// P10.4

func TestAccepts(t *testing.T) {
	mine, theirs := ownTag(3), peerTag()
	for _, s := range states() {
		x, up := inState(t, s), s == api.AdjIsUp
		for i, y := range []struct {
			node         int
			mine, theirs api.Tag
			want         bool
		}{
			{peer, mine, theirs, up},
			{own, mine, theirs, false},
			{11, mine, theirs, false},
			{0, mine, theirs, false},
			{-peer, mine, theirs, false},
			{1<<32 + peer, mine, theirs, false},
			{peer, ownTag(2), theirs, false},
			{peer, ownTag(4), theirs, false},
			{peer, tag(8, 3), theirs, false},
			{peer, tag(6, 3), theirs, false},
			{peer, api.Tag{}, theirs, false},
			{peer, mine, tag(4, 5), false},
			{peer, mine, tag(4, 7), false},
			{peer, mine, tag(3, 6), false},
			{peer, mine, tag(5, 6), false},
			{peer, mine, api.Tag{}, false},
			{peer, theirs, mine, false},
			{0, api.Tag{}, api.Tag{}, false},
			{0, mine, api.Tag{}, false},
			{own, theirs, mine, false},
		} {
			if x.Accepts(y.node, y.mine, y.theirs) != y.want {
				t.Errorf("%d: %d: not %t", s, i, y.want)
			}
		}
		// To ask is no step.
		seen(t, x, own, as(s))
	}
}

func TestDrop(t *testing.T) {
	for _, s := range states() {
		x := inState(t, s)
		if e := x.Drop(); e != told(s == api.AdjIsUp) {
			t.Errorf("%d: %d", s, e)
		}
		seen(t, x, own, isDown(4))
		// Each of them tries anew, where it is down already, too.
		for try := uint64(5); try < 8; try++ {
			if e := x.Drop(); e != api.AdjNone {
				t.Errorf("%d: %d", s, e)
			}
			seen(t, x, own, isDown(try))
		}
		// The neighbour did not try anew: its tag is as it was.
		heard(t, x, hello(peer, peerTag(), ownTag(3)), api.AdjNone)
		seen(t, x, own, isHeard(7, peer, peerTag()))
		heard(t, x, hello(peer, peerTag(), ownTag(7)), api.AdjUp)
		seen(t, x, own, isUp(7, peer, peerTag()))
	}
}

// steps are what may be done to one of inState, each of which another one sees.
func steps() map[string]func(*testing.T, *Adj, *model) {
	return map[string]func(*testing.T, *Adj, *model){
		"tick":  tick,
		"drop":  drop,
		"heard": func(t *testing.T, x *Adj, m *model) { hear(t, x, m, hello(peer, peerTag(), api.Tag{})) },
		"up":    func(t *testing.T, x *Adj, m *model) { hear(t, x, m, hello(peer, peerTag(), m.mine())) },
		"newer": func(t *testing.T, x *Adj, m *model) { hear(t, x, m, hello(peer, tag(4, 7), api.Tag{})) },
		"other": func(t *testing.T, x *Adj, m *model) { hear(t, x, m, hello(11, tag(4, 7), m.mine())) },
		"dead": func(t *testing.T, x *Adj, m *model) {
			for range dead {
				tick(t, x, m)
			}
		},
	}
}

func TestCopy(t *testing.T) {
	for _, s := range states() {
		for _, ahead := range []int{0, 1, dead - 1} {
			for _, do := range steps() {
				for _, also := range steps() {
					x, m := inState(t, s), inModel(s)
					for range ahead {
						tick(t, x, m)
					}
					y, n := x.Copy(), m.copied()
					if x == y {
						t.Fatal("one and the same")
					}
					held(t, y, n)
					do(t, x, m)
					held(t, x, m)
					held(t, y, n)
					also(t, y, n)
					held(t, x, m)
					held(t, y, n)
					// A copy of a copy is apart, too.
					z, o := y.Copy(), n.copied()
					do(t, y, n)
					also(t, z, o)
					held(t, x, m)
					held(t, y, n)
					held(t, z, o)
				}
			}
		}
	}
}

// Wrong inputs.

func TestMissing(t *testing.T) {
	hellos := append(refused(), hello(peer, peerTag(), api.Tag{}), hello(peer, peerTag(), ownTag(1)), hello(own, peerTag(), api.Tag{}), api.Hello{})
	for i, x := range missing() {
		// Twice: nothing of what is done makes it one that is there.
		for range 2 {
			for _, h := range hellos {
				if got, e := x.Hear(h); got != api.AdjNone || e != api.ErrNil {
					t.Fatalf("%d: Hear(%v): %d, %d", i, h, got, e)
				}
			}
			for range api.MaxTicks + 2 {
				if e, due := x.Tick(); e != api.AdjNone || due {
					t.Fatalf("%d: Tick: %d, %t", i, e, due)
				}
			}
			if h, e := x.Say(); h != (api.Hello{}) || e != api.ErrNil {
				t.Errorf("%d: Say: %v, %d", i, h, e)
			}
			if e := x.Drop(); e != api.AdjNone {
				t.Errorf("%d: Drop: %d", i, e)
			}
			if v := x.View(); v != (api.AdjView{}) {
				t.Errorf("%d: View: %v", i, v)
			}
			if y := x.Copy(); y != nil {
				t.Errorf("%d: Copy: %v", i, y)
			}
			for _, node := range []int{-1, 0, 1, peer} {
				for _, g := range []api.Tag{{}, tag(0, 1), ownTag(1)} {
					if x.Accepts(node, g, api.Tag{}) || x.Accepts(node, api.Tag{}, g) || x.Accepts(node, g, g) {
						t.Errorf("%d: Accepts(%d, %v)", i, node, g)
					}
				}
			}
		}
	}
}

func TestWhichErrorIsFirst(t *testing.T) {
	for _, x := range missing() {
		if _, e := x.Hear(hello(0, api.Tag{}, api.Tag{})); e != api.ErrNil {
			t.Error(e)
		}
	}
	for _, s := range states() {
		// A hello of this node is nothing, but one that may not be is ErrArg.
		for _, mine := range []api.Tag{{}, tag(0, 1), tag(1, 0)} {
			if _, e := inState(t, s).Hear(hello(own, mine, ownTag(3))); e != api.ErrArg {
				t.Error(s, mine, e)
			}
		}
	}
}

// P10.1 to P10.4, whatever is done.

// place is all that tells how a model goes on.
type place struct {
	view           api.AdjView
	silence, phase int
}

func (m *model) place() place {
	p := place{view: m.view(), phase: m.now % m.every}
	if m.peer != 0 {
		p.silence = m.now - m.heard
	}
	return p
}

// pair is an adjacency with its model.
type pair struct {
	x *Adj
	m *model
}

// near are hellos of few nodes, with tags that are elder and newer in each way, that heard what Mine is, was, and will be, and others.
func near(m *model) []api.Hello {
	mine := m.mine()
	var l []api.Hello
	for _, node := range []int{0, 1, 2, 3, api.MaxNodes + 1} {
		for _, g := range []api.Tag{{}, tag(0, 1), tag(1, 0), tag(1, 1), tag(1, 2), tag(2, 1), tag(2, 2)} {
			for _, h := range []api.Tag{{}, mine, tag(mine.Boot, mine.Try+1), tag(mine.Boot, mine.Try-1), tag(mine.Boot+1, mine.Try), tag(mine.Try, mine.Boot), g} {
				l = append(l, hello(node, g, h))
			}
		}
	}
	return l
}

// from answers what comes of each step from p on.
func (p pair) from(t *testing.T) []pair {
	t.Helper()
	var l []pair
	next := func(do func(x *Adj, m *model)) {
		t.Helper()
		q := pair{p.x.Copy(), p.m.copied()}
		do(q.x, q.m)
		held(t, q.x, q.m)
		l = append(l, q)
	}
	next(func(x *Adj, m *model) { tick(t, x, m) })
	next(func(x *Adj, m *model) { drop(t, x, m) })
	for _, h := range near(p.m) {
		next(func(x *Adj, m *model) { hear(t, x, m, h) })
	}
	return l
}

// TestEachStepFromEach: each step from all that is reached by steps, till it tried anew three times.
func TestEachStepFromEach(t *testing.T) {
	for _, w := range []struct{ every, dead int }{{1, 1}, {1, 2}, {2, 1}, {3, 2}, {2, 3}} {
		x, m := both(t, 2, 2, w.every, w.dead)
		held(t, x, m)
		left, been := []pair{{x, m}}, map[place]bool{m.place(): true}
		for len(left) > 0 {
			p := left[0]
			left = left[1:]
			for _, q := range p.from(t) {
				if at := q.m.place(); q.m.tries < 3 && !been[at] {
					been[at] = true
					left = append(left, q)
				}
			}
			held(t, p.x, p.m)
		}
		// Of each try it is down, or was silent for so long with one of two nodes, each of four tags, and is up, or not.
		if all := 3 * (1 + w.dead*2*4*2) * w.every; len(been) != all {
			t.Error(w, len(been), all)
		}
	}
}

// chance tells numbers that look like no others: the same ones for each seed.
type chance uint32

func (c *chance) below(n int) int {
	*c = *c*1664525 + 1013904223
	return int(*c>>8) % n
}

// tag is one near another, or any.
func (c *chance) tag(g api.Tag) api.Tag {
	switch c.below(8) {
	case 0:
		return api.Tag{}
	case 1:
		return tag(uint64(c.below(4)), uint64(c.below(4)))
	case 2:
		return tag(g.Boot+1, 1)
	case 3:
		return tag(g.Boot, g.Try+uint64(c.below(3))-1)
	}
	return g
}

// hello is mostly of the neighbour, as it is known.
func (c *chance) hello(m *model) api.Hello {
	node := m.peer
	if node == 0 || c.below(40) == 0 {
		node = c.below(api.MaxNodes+3) - 1
	}
	return hello(node, c.tag(m.theirs), c.tag(m.mine()))
}

// step does one thing by chance to one of several, and fails if it is not done to that one alone.
func (c *chance) step(t *testing.T, ps []pair) {
	t.Helper()
	i := c.below(len(ps))
	p := ps[i]
	switch what := c.below(100); {
	case what < 50:
		hear(t, p.x, p.m, c.hello(p.m))
	case what < 95:
		tick(t, p.x, p.m)
	case what < 97:
		drop(t, p.x, p.m)
	default:
		ps[c.below(len(ps))] = pair{p.x.Copy(), p.m.copied()}
	}
	for _, q := range ps {
		if q.x.View() != q.m.view() {
			t.Fatalf("%v, not %v", q.x.View(), q.m.view())
		}
	}
}

func TestWhateverIsDone(t *testing.T) {
	ups := 0
	for seed := range 60 {
		c := chance(seed)
		ps := make([]pair, 3)
		for i := range ps {
			x, m := both(t, 1+c.below(api.MaxNodes), 1+uint64(c.below(5)), 1+c.below(12), 1+c.below(12))
			ps[i] = pair{x, m}
		}
		for n := range 600 {
			c.step(t, ps)
			if n%20 == 0 {
				p := ps[c.below(len(ps))]
				held(t, p.x, p.m)
				if p.m.isUp() {
					ups++
				}
			}
		}
	}
	// Rows in which hardly anything comes up would tell little.
	if ups < 200 {
		t.Error(ups)
	}
}

func TestLongTimers(t *testing.T) {
	for seed := range 20 {
		c := chance(seed + 500)
		x, m := both(t, 3, greatest-uint64(c.below(2)), api.MaxTicks-c.below(2), api.MaxTicks-c.below(2))
		for range 40 {
			hear(t, x, m, c.hello(m))
			for range c.below(2 * api.MaxTicks) {
				tick(t, x, m)
			}
		}
		held(t, x, m)
	}
}

// P10.5

// ended are the sessions that were Up, and are not any more.
type ended []api.AdjView

// behind is what ended, once a step led from one view to another. It fails if what is Up ended already.
func (l ended) behind(t *testing.T, x *Adj, was api.AdjView) ended {
	t.Helper()
	is := x.View()
	if was.State == api.AdjIsUp && is != was {
		l = append(slices.Clip(l), was)
	}
	for _, v := range l {
		if is == v || x.Accepts(v.Node, v.Mine, v.Theirs) {
			t.Fatalf("%v is Up again", v)
		}
	}
	return l
}

// tries are all steps by which a session might be Up again: elder hellos, of two nodes, with each tag that this one ever had.
func tries() []func(*Adj) {
	l := []func(*Adj){func(x *Adj) { x.Tick() }, func(x *Adj) { x.Drop() }}
	for _, from := range []api.Hello{hello(2, tag(1, 1), api.Tag{}), hello(2, tag(1, 2), api.Tag{}), hello(3, tag(1, 1), api.Tag{})} {
		for try := uint64(1); try <= 3; try++ {
			h := hello(from.Node, from.Mine, tag(1, try))
			l = append(l, func(x *Adj) { x.Hear(h) })
		}
	}
	return l
}

// TestNeverUpAgain goes all rows of six steps.
func TestNeverUpAgain(t *testing.T) {
	all, most := tries(), 0
	var walk func(x *Adj, l ended, left int)
	walk = func(x *Adj, l ended, left int) {
		most = max(most, len(l))
		if left == 0 {
			return
		}
		for _, do := range all {
			y := x.Copy()
			do(y)
			walk(y, l.behind(t, y, x.View()), left-1)
		}
	}
	walk(made(t, 1, 1, 1, 1), nil, 6)
	if most < 3 {
		t.Error(most)
	}
}

// TestNeverUpAgainInLongRows hears again and again what was heard ahead.
func TestNeverUpAgainInLongRows(t *testing.T) {
	most := 0
	for seed := range 40 {
		c := chance(seed + 900)
		x, m := both(t, 2, 1, 2, 3)
		var l ended
		var old []api.Hello
		for range 400 {
			was := x.View()
			switch what := c.below(20); {
			case what < 8 && len(old) > 0:
				hear(t, x, m, old[c.below(len(old))])
			case what < 15:
				h := c.hello(m)
				old = append(old, h)
				hear(t, x, m, h)
			case what < 19:
				tick(t, x, m)
			default:
				drop(t, x, m)
			}
			l = l.behind(t, x, was)
		}
		most = max(most, len(l))
	}
	if most < 20 {
		t.Error(most)
	}
}

// two are two that hear each other, and all hellos that either ever said.
type two struct {
	ends  [2]*Adj
	boots [2]uint64
	said  [2][]api.Hello
	// gone are the sessions of boots that are over, of each end.
	gone [2]ended
}

func (w *two) begin(t *testing.T, i int) {
	t.Helper()
	if x := w.ends[i]; x != nil && x.View().State == api.AdjIsUp {
		w.gone[i] = append(slices.Clip(w.gone[i]), x.View())
	}
	w.boots[i]++
	w.ends[i] = made(t, 1+i, w.boots[i], 1, 3)
}

// say lets the end i say hello: the other one hears it, or it is lost.
func (w *two) say(t *testing.T, i int, comes bool) {
	t.Helper()
	h, e := w.ends[i].Say()
	if e != api.OK {
		t.Fatal(e)
	}
	w.said[i] = append(slices.Clip(w.said[i]), h)
	if comes {
		w.hear(t, 1-i, h)
	}
}

func (w *two) hear(t *testing.T, i int, h api.Hello) {
	t.Helper()
	if _, e := w.ends[i].Hear(h); e != api.OK {
		t.Fatalf("Hear(%v): %d", h, e)
	}
}

func (w *two) copied() *two {
	c := *w
	for i, x := range w.ends {
		c.ends[i] = x.Copy()
	}
	return &c
}

// meet fails if the two are not Up behind three hellos, the first one of the end i, or do not accept each other's frames.
func (w *two) meet(t *testing.T, i int) {
	t.Helper()
	for _, from := range []int{i, 1 - i, i} {
		w.say(t, from, true)
	}
	for k, x := range w.ends {
		v, o := x.View(), w.ends[1-k].View()
		if v.State != api.AdjIsUp || v.Node != 2-k || v.Mine != o.Theirs || v.Mine.Boot != w.boots[k] {
			t.Fatalf("%v, and the other one %v", v, o)
		}
		f := api.Frame{Kind: api.FrameData, Node: 2 - k, Mine: o.Mine, Theirs: o.Theirs}
		if !x.Accepts(f.Node, f.Theirs, f.Mine) {
			t.Fatalf("%v: it does not accept %v", v, f)
		}
		for _, old := range w.gone[k] {
			if x.Accepts(old.Node, old.Mine, old.Theirs) {
				t.Fatalf("%v: it accepts %v", v, old)
			}
		}
	}
}

// apart are the steps that leave the two anyhow: hellos that come, are lost or are late, ticks, losses of power.
func (w *two) apart(t *testing.T) []func(*two) {
	t.Helper()
	var l []func(*two)
	for i := range w.ends {
		l = append(l,
			func(w *two) { w.say(t, i, true) },
			func(w *two) { w.say(t, i, false) },
			func(w *two) { w.ends[i].Tick() },
			func(w *two) { w.ends[i].Drop() },
			func(w *two) { w.begin(t, i) },
			func(w *two) {
				// What was said first is the latest of all that comes late.
				if len(w.said[1-i]) > 0 {
					w.hear(t, i, w.said[1-i][0])
				}
			})
	}
	return l
}

func begun(t *testing.T) *two {
	t.Helper()
	w := new(two)
	for i := range w.ends {
		w.begin(t, i)
	}
	return w
}

// TestThreeHellos lets two meet behind all rows of four steps.
func TestThreeHellos(t *testing.T) {
	var walk func(w *two, left int)
	walk = func(w *two, left int) {
		for i := range w.ends {
			w.copied().meet(t, i)
		}
		if left == 0 {
			return
		}
		for _, do := range w.apart(t) {
			c := w.copied()
			do(c)
			walk(c, left-1)
		}
	}
	walk(begun(t), 4)
}

func TestThreeHellosBehindLongRows(t *testing.T) {
	for seed := range 40 {
		c := chance(seed + 1300)
		w := begun(t)
		for range 100 {
			for range c.below(12) {
				l := w.apart(t)
				l[c.below(len(l))](w)
				i := c.below(2)
				if n := len(w.said[1-i]); n > 0 && c.below(3) == 0 {
					w.hear(t, i, w.said[1-i][c.below(n)])
				}
			}
			w.meet(t, c.below(2))
		}
	}
}

// TestThreeHellosAtEachTick: a hello is due at each so many ticks, and comes at once: what is up stays up.
func TestThreeHellosAtEachTick(t *testing.T) {
	for every := 1; every <= 5; every++ {
		a, b := made(t, 1, 1, every, every+1), made(t, 2, 1, every, every+1)
		for n := range 40 {
			for _, p := range [][2]*Adj{{a, b}, {b, a}} {
				e, due := p[0].Tick()
				if e != api.AdjNone || due != (n%every == 0) {
					t.Fatal(every, n, e, due)
				}
				if h, _ := p[0].Say(); due {
					p[1].Hear(h)
				}
			}
			if n >= every && (a.View().State != api.AdjIsUp || b.View().State != api.AdjIsUp) {
				t.Fatal(every, n, a.View(), b.View())
			}
		}
		if a.View().Mine.Try != 1 || b.View().Mine.Try != 1 {
			t.Error(every, a.View(), b.View())
		}
	}
}

// TestPowerLost: behind a loss of power nothing of the elder session is accepted.
func TestPowerLost(t *testing.T) {
	w := begun(t)
	w.meet(t, 0)
	was := [2]api.AdjView{w.ends[0].View(), w.ends[1].View()}
	old, _ := w.ends[0].Say()
	w.begin(t, 0)
	refuses := func(i int) {
		t.Helper()
		if w.ends[i].Accepts(was[i].Node, was[i].Mine, was[i].Theirs) {
			t.Errorf("%d: %v", i, w.ends[i].View())
		}
	}
	refuses(0)
	w.say(t, 0, true)
	refuses(1)
	// An elder hello makes it no better.
	heard(t, w.ends[1], old, api.AdjNone)
	refuses(1)
	w.meet(t, 1)
	refuses(0)
	refuses(1)
	heard(t, w.ends[1], old, api.AdjNone)
	refuses(1)
}
