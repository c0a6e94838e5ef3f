package lfi

import (
	"fmt"
	"slices"
	"strings"
	"testing"

	"guidepost/api"
)

// What follows for several cores (P12.4, P0.1): their updates are carried, and acknowledged, in any order in which each port's come in order, while ports go down and come up, and costs change.

// end is a port of a core.
type end struct{ node, port int }

// line is what an end sent in a session, and did not come yet.
type line struct {
	updates []api.Update
	acks    []api.Prefix
}

// link joins two ends. Each end's port is up as long as it is in a session; sessions have numbers that rise, and what was sent in one comes to an end that is in the same, or never.
type link struct {
	ends [2]end
	// in is which session each end is in (0: none), last the last one that it was in.
	in, last [2]int
	lines    map[[2]int]line
}

// at is where the line stands of what that side sends in that session.
func at(side, session int) [2]int { return [2]int{side, session} }

func (l *link) meets() bool { return l.in[0] == l.in[1] && l.in[0] != 0 }

type world struct {
	nodes []*pair
	links []*link
	cost  map[end]int
}

// grow is a world of cores that own these, and have that room, and of links between these ends.
func grow(t *testing.T, room []int, own [][]api.Prefix, ends ...[2]end) *world {
	t.Helper()
	w := &world{cost: map[end]int{}}
	for i, l := range own {
		w.nodes = append(w.nodes, both(t, room[i], l...))
	}
	for _, l := range ends {
		w.links = append(w.links, &link{ends: l, lines: map[[2]int]line{}})
		w.cost[l[0]], w.cost[l[1]] = 1, 1
	}
	return w
}

func (w *world) copied() *world {
	c := &world{cost: map[end]int{}}
	for _, p := range w.nodes {
		c.nodes = append(c.nodes, p.copied())
	}
	for _, l := range w.links {
		k := *l
		k.lines = map[[2]int]line{}
		for at, s := range l.lines {
			k.lines[at] = line{slices.Clone(s.updates), slices.Clone(s.acks)}
		}
		c.links = append(c.links, &k)
	}
	for e, n := range w.cost {
		c.cost[e] = n
	}
	return c
}

// place tells how it goes on.
func (w *world) place() string {
	var b strings.Builder
	for _, p := range w.nodes {
		fmt.Fprintln(&b, p.place())
	}
	for _, l := range w.links {
		fmt.Fprintln(&b, l.in, l.last, l.lines, w.cost[l.ends[0]], w.cost[l.ends[1]])
	}
	return b.String()
}

// do lets an event happen to a node, and puts what it tells into its lines. No circle comes of it.
func (w *world) do(t *testing.T, node int, e api.CoreEvent) {
	t.Helper()
	told, bad := w.nodes[node].m.copied().do(e)
	if bad != api.OK {
		t.Fatalf("%d: %v: %d", node, e, bad)
	}
	w.nodes[node].do(t, e)
	for _, u := range told {
		l, side := w.find(end{node, u.Port})
		s := l.lines[at(side, l.in[side])]
		s.updates = append(s.updates, u.Update)
		l.lines[at(side, l.in[side])] = s
	}
	w.noCircle(t)
}

func (w *world) find(e end) (*link, int) {
	for _, l := range w.links {
		for side := range 2 {
			if l.ends[side] == e {
				return l, side
			}
		}
	}
	return nil, 0
}

// rise brings an end into a session that it was never in, or, of 0, out of the one that it is in.
func (w *world) rise(t *testing.T, l *link, side, session int) {
	t.Helper()
	e := l.ends[side]
	l.in[side], l.last[side] = session, max(session, l.last[side])
	for n := range l.last[side] {
		// It takes nothing of elder ones any more.
		delete(l.lines, at(1-side, n))
	}
	if session == 0 {
		w.do(t, e.node, down(e.port))
		return
	}
	w.do(t, e.node, up(e.port, w.cost[e]))
}

func (w *world) setCost(t *testing.T, e end, cost int) {
	t.Helper()
	w.cost[e] = cost
	if l, side := w.find(e); l.in[side] != 0 {
		w.do(t, e.node, costs(e.port, cost))
	}
}

// waits is what that side may take: updates, acknowledgements.
func (l *link) waits(side int) line {
	if l.in[side] == 0 {
		return line{}
	}
	return l.lines[at(1-side, l.in[side])]
}

// hear lets that side hear the next update, which it acknowledges.
func (w *world) hear(t *testing.T, l *link, side int) {
	t.Helper()
	s := l.waits(side)
	u := s.updates[0]
	s.updates = s.updates[1:]
	l.lines[at(1-side, l.in[side])] = s
	own := l.lines[at(side, l.in[side])]
	own.acks = append(own.acks, u.Prefix)
	l.lines[at(side, l.in[side])] = own
	w.do(t, l.ends[side].node, heard(l.ends[side].port, u.Prefix, u.Distance))
}

// ack lets the next acknowledgement come to that side.
func (w *world) ack(t *testing.T, l *link, side int) {
	t.Helper()
	s := l.waits(side)
	p := s.acks[0]
	s.acks = s.acks[1:]
	l.lines[at(1-side, l.in[side])] = s
	w.do(t, l.ends[side].node, acked(l.ends[side].port, p))
}

// prefixes are all that any node knows.
func (w *world) prefixes() []api.Prefix {
	var l []api.Prefix
	for _, p := range w.nodes {
		for q := range p.c.All() {
			if !slices.Contains(l, q) {
				l = append(l, q)
			}
		}
	}
	return l
}

func has(p api.Prefix, a api.Addr) bool {
	return p.Addr>>(32-p.Len) == a>>(32-p.Len)
}

// noCircle fails if what is sent to any address may come where it was, or by a way on which a feasible distance does not fall.
func (w *world) noCircle(t *testing.T) {
	t.Helper()
	routes := make([][]api.Route, len(w.nodes))
	for i, p := range w.nodes {
		routes[i] = p.c.Routes()
	}
	// Which prefixes have an address changes at the first ones of prefixes, and behind the last ones, alone.
	var some []api.Addr
	for _, p := range w.prefixes() {
		some = append(some, p.Addr, p.Addr|api.Addr(uint64(1)<<(32-p.Len)-1))
	}
	slices.Sort(some)
	for _, a := range slices.Compact(some) {
		w.goes(t, a, routes)
	}
}

// goes follows all ways from all nodes, by the longest prefixes that have a.
func (w *world) goes(t *testing.T, a api.Addr, routes [][]api.Route) {
	t.Helper()
	arrows := make([][]int, len(w.nodes))
	for i, l := range routes {
		best := api.Route{Prefix: api.Prefix{Len: -1}}
		for _, r := range l {
			if has(r.Prefix, a) && r.Prefix.Len > best.Prefix.Len {
				best = r
			}
		}
		for _, n := range best.Next {
			l, side := w.find(end{i, n.Port})
			if !l.meets() {
				continue
			}
			to := l.ends[1-side].node
			arrows[i] = append(arrows[i], to)
			w.falls(t, best.Prefix, i, to)
		}
	}
	on, over := make([]bool, len(arrows)), make([]bool, len(arrows))
	var follow func(i int)
	follow = func(i int) {
		if on[i] {
			t.Fatalf("a circle to %08x: %v\n%s", uint32(a), arrows, w.place())
		}
		if over[i] {
			return
		}
		on[i] = true
		for _, to := range arrows[i] {
			follow(to)
		}
		on[i], over[i] = false, true
	}
	for i := range arrows {
		follow(i)
	}
}

func (w *world) falls(t *testing.T, p api.Prefix, from, to int) {
	t.Helper()
	x, _ := w.nodes[from].c.Entry(p)
	y, is := w.nodes[to].c.Entry(p)
	if !is || y.Feasible >= x.Feasible {
		t.Fatalf("%d goes to %d, but is no farther: %v, %v\n%s", from, to, x, y, w.place())
	}
}

// carry lets all come that is under way in some order, till nothing is.
func (w *world) carry(t *testing.T, below func(n int) int) {
	t.Helper()
	for range 100000 {
		l := w.carries(t)
		if len(l) == 0 {
			return
		}
		l[below(len(l))]()
	}
	t.Fatal("never calm: " + w.place())
}

// carries are what may come now, by each line.
func (w *world) carries(t *testing.T) []func() {
	t.Helper()
	var do []func()
	for _, l := range w.links {
		for side := range 2 {
			s := l.waits(side)
			if len(s.updates) > 0 {
				do = append(do, func() { w.hear(t, l, side) })
			}
			if len(s.acks) > 0 {
				do = append(do, func() { w.ack(t, l, side) })
			}
		}
	}
	return do
}

// meet brings both ends of each link into one session.
func (w *world) meet(t *testing.T) {
	t.Helper()
	for _, l := range w.links {
		if l.meets() {
			continue
		}
		session := max(l.last[0], l.last[1]) + 1
		w.rise(t, l, 0, session)
		w.rise(t, l, 1, session)
	}
}

// true is how far it is from each node to p, by links whose ends meet.
func (w *world) true(p api.Prefix) []int {
	d := make([]int, len(w.nodes))
	for i, x := range w.nodes {
		if e, is := x.c.Entry(p); !is || !e.Own {
			d[i] = 255
		}
	}
	for range d {
		for _, l := range w.links {
			for side, e := range l.ends {
				if l.meets() {
					d[e.node] = min(d[e.node], d[l.ends[1-side].node]+w.cost[e])
				}
			}
		}
	}
	return d
}

// settled fails unless all know the shortest ways, and these alone; of cores that have room for all.
func (w *world) settled(t *testing.T) {
	t.Helper()
	var l []api.Prefix
	for _, x := range w.nodes {
		for p, e := range x.c.All() {
			if e.Own {
				l = append(l, p)
			}
		}
	}
	want := make([]map[api.Prefix]api.Route, len(w.nodes))
	for i := range want {
		want[i] = map[api.Prefix]api.Route{}
	}
	for _, p := range l {
		d := w.true(p)
		for i := range w.nodes {
			if d[i] < 255 {
				want[i][p] = api.Route{Prefix: p, Own: d[i] == 0, Taken: true, Distance: d[i], Next: w.nearer(i, d)}
			}
		}
	}
	for i, x := range w.nodes {
		routes := x.c.Routes()
		if len(routes) != len(want[i]) || !x.c.Passive() {
			t.Fatalf("%d: %v, not %v, or active\n%s", i, routes, want[i], w.place())
		}
		for _, r := range routes {
			e, _ := x.c.Entry(r.Prefix)
			if !sameRoute(r, want[i][r.Prefix]) || e.Told != e.Distance || e.Feasible != e.Distance {
				t.Fatalf("%d: %v, %v, not %v\n%s", i, r, e, want[i][r.Prefix], w.place())
			}
		}
	}
}

// nearer are the ways from a node to neighbours that are nearer.
func (w *world) nearer(i int, d []int) []api.Next {
	var l []api.Next
	for port := range api.MaxPorts {
		k, side := w.find(end{i, port})
		if k == nil || !k.meets() {
			continue
		}
		to := d[k.ends[1-side].node]
		if far := to + w.cost[end{i, port}]; to < d[i] && far < 255 {
			l = append(l, api.Next{Port: port, Distance: far})
		}
	}
	return l
}

// changes are what may be changed from without, by few costs.
func (w *world) changes(t *testing.T, cost ...int) []func() {
	t.Helper()
	var do []func()
	for _, l := range w.links {
		for side, e := range l.ends {
			for _, n := range cost {
				if n != w.cost[e] {
					do = append(do, func() { w.setCost(t, e, n) })
				}
			}
			if l.in[side] != 0 {
				do = append(do, func() { w.rise(t, l, side, 0) })
			}
			// The session that the other end is, or was, in, or a new one.
			for session := l.last[side] + 1; session <= max(l.last[0], l.last[1])+1; session++ {
				do = append(do, func() { w.rise(t, l, side, session) })
			}
		}
	}
	return do
}

// still is w when its ends met, and nothing was under way any more.
func (w *world) still(t *testing.T) *world {
	t.Helper()
	w.meet(t)
	w.carry(t, func(int) int { return 0 })
	return w
}

// mayRest: do all ends meet, and have all nodes room for all prefixes?
func (w *world) mayRest() bool {
	for _, l := range w.links {
		if !l.meets() {
			return false
		}
	}
	for _, x := range w.nodes {
		if x.m.room < len(w.prefixes()) {
			return false
		}
	}
	return true
}

// walk goes all ways from w on which at most so many changes come, and answers how many states there are. Where nothing is under way any more, and all ends meet, all is settled.
func (w *world) walk(t *testing.T, most int, cost ...int) int {
	t.Helper()
	type state struct {
		w    *world
		more int
	}
	left, been := []state{{w, most}}, map[string]bool{}
	for len(left) > 0 {
		s := left[0]
		left = left[1:]
		next := func(c *world, more int, do func()) {
			do()
			if at := fmt.Sprint(more, c.place()); !been[at] {
				been[at] = true
				left = append(left, state{c, more})
			}
		}
		carries := len(s.w.carries(t))
		for i := range carries {
			c := s.w.copied()
			next(c, s.more, c.carries(t)[i])
		}
		for i := range s.w.changes(t, cost...) {
			if s.more > 0 {
				c := s.w.copied()
				next(c, s.more-1, c.changes(t, cost...)[i])
			}
		}
		if carries == 0 && s.w.mayRest() {
			s.w.settled(t)
		}
	}
	return len(been)
}

// TestAllWaysBetweenThree goes all ways on which updates and acknowledgements may come between three in a triangle, of which one owns a prefix, when two things change amid them.
func TestAllWaysBetweenThree(t *testing.T) {
	t.Parallel()
	w := grow(t, []int{9, 9, 9}, [][]api.Prefix{{net(10)}, nil, nil}, [2]end{{0, 0}, {1, 0}}, [2]end{{1, 1}, {2, 1}}, [2]end{{0, 2}, {2, 2}})
	if n := w.still(t).walk(t, 2, 1, 50); n < 10000 {
		t.Error(n)
	}
}

// TestAllWaysBetweenTwo: on two links, and of prefixes for which there is no room.
func TestAllWaysBetweenTwo(t *testing.T) {
	t.Parallel()
	for _, room := range []int{0, 1, 9} {
		w := grow(t, []int{room, room}, [][]api.Prefix{{net(10)}, nil}, [2]end{{0, 0}, {1, 0}}, [2]end{{0, 5}, {1, 7}})
		if n := w.still(t).walk(t, 3, 1, 3); n < 500 {
			t.Error(room, n)
		}
		w = grow(t, []int{room, room}, [][]api.Prefix{nil, {long(10, 9), net(11)}}, [2]end{{0, 3}, {1, 4}})
		if n := w.walk(t, 5, 1, 3); n < 500 {
			t.Error(room, n)
		}
	}
}

// TestWhateverHappensBetweenMany: long rows by chance, in worlds of which some have room for all.
func TestWhateverHappensBetweenMany(t *testing.T) {
	t.Parallel()
	for seed := range 200 {
		c := chance(seed + 3000)
		w := c.world(t, seed%2 == 0)
		for range 3 {
			for range 60 {
				c.amid(t, w)
			}
			if seed%2 == 0 {
				w.meet(t)
				w.carry(t, c.below)
				w.settled(t)
			}
		}
	}
}

// world is one of two to six nodes, on links that are in a row, and others.
func (c *chance) world(t *testing.T, wide bool) *world {
	t.Helper()
	n := 2 + c.below(5)
	var room []int
	own := make([][]api.Prefix, n)
	var ends [][2]end
	ports := make([]int, n)
	link := func(a, b int) {
		if a != b && ports[a] < api.MaxPorts && ports[b] < api.MaxPorts {
			ends = append(ends, [2]end{{a, ports[a]}, {b, ports[b]}})
			ports[a]++
			ports[b]++
		}
	}
	for i := range n {
		if wide {
			room = append(room, api.MaxRoom)
		} else {
			room = append(room, c.below(4))
		}
		for range c.below(3) {
			if p := c.prefix(); !slices.Contains(own[i], p) {
				own[i] = append(own[i], p)
			}
		}
		if i > 0 {
			link(i-1, i)
		}
	}
	for range 1 + c.below(n) {
		link(c.below(n), c.below(n))
	}
	return grow(t, room, own, ends...)
}

// amid lets something come that is under way, mostly, or changes something from without.
func (c *chance) amid(t *testing.T, w *world) {
	t.Helper()
	if l := w.carries(t); len(l) > 0 && c.below(8) > 0 {
		l[c.below(len(l))]()
		return
	}
	l := w.changes(t, c.cost(), c.cost(), 1)
	if len(l) > 0 {
		l[c.below(len(l))]()
	}
}
