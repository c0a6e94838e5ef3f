package lfi

import (
	"fmt"
	"maps"
	"slices"
	"strings"
	"testing"

	"guidepost/api"
)

// model is a core worked out in another way than the program's: entries stand by texts that are sorted as they are; what was said stands there as long as it is less than Infinite; updates stand one by one, from when they go out till they are acknowledged; what goes, goes one by one, and what is taken for it is so at once.
type model struct {
	room int
	// cost has the ports that are up.
	cost  map[int]int
	items map[string]*item
	// has is what a neighbour has heard last, for certain, if anything; way is what it will yet hear.
	has map[place]int
	way map[place][]int
	out []api.Told
}

type item struct {
	prefix         api.Prefix
	own, taken     bool
	said           map[int]int
	told, feasible int
}

type place struct {
	port   int
	prefix api.Prefix
}

func key(p api.Prefix) string { return fmt.Sprintf("%08x/%02d", uint32(p.Addr), p.Len) }

func goodPrefix(p api.Prefix) bool {
	if p.Len < 0 || p.Len > 32 {
		return false
	}
	bits := fmt.Sprintf("%032b", uint32(p.Addr))
	return !strings.Contains(bits[p.Len:], "1")
}

func fresh(room int, own ...api.Prefix) *model {
	m := &model{room: room, cost: map[int]int{}, items: map[string]*item{}, has: map[place]int{}, way: map[place][]int{}}
	for _, p := range own {
		m.items[key(p)] = &item{prefix: p, own: true, taken: true, said: map[int]int{}}
	}
	return m
}

func (m *model) copied() *model {
	c := *m
	c.cost, c.has, c.way = maps.Clone(m.cost), maps.Clone(m.has), maps.Clone(m.way)
	c.items = map[string]*item{}
	for k, x := range m.items {
		y := *x
		y.said = maps.Clone(x.said)
		c.items[k] = &y
	}
	return &c
}

func (m *model) keys() []string { return slices.Sorted(maps.Keys(m.items)) }

func (m *model) isActive(p api.Prefix) bool {
	for port := range 8 {
		if len(m.way[place{port, p}]) > 0 {
			return true
		}
	}
	return false
}

// sums is how far it is by each port, where it is less than Infinite.
func (m *model) sums(x *item) map[int]int {
	far := map[int]int{}
	for port, said := range x.said {
		if sum := said + m.cost[port]; sum < 255 {
			far[port] = sum
		}
	}
	return far
}

func (m *model) distance(x *item) int {
	switch {
	case x.own:
		return 0
	case x.taken:
		return slices.Min(append(slices.Collect(maps.Values(m.sums(x))), 255))
	}
	return 255
}

func (m *model) next(x *item) []api.Next {
	if x.own || !x.taken {
		return nil
	}
	far := m.sums(x)
	var l []api.Next
	for _, port := range slices.Sorted(maps.Keys(far)) {
		if x.said[port] < x.feasible {
			l = append(l, api.Next{Port: port, Distance: far[port]})
		}
	}
	return l
}

func (m *model) send(port int, x *item) {
	at := place{port, x.prefix}
	m.way[at] = append(slices.Clip(m.way[at]), x.told)
	m.out = append(m.out, api.Told{Port: port, Update: api.Update{Prefix: x.prefix, Distance: x.told}})
}

func (m *model) look(x *item) {
	for {
		d := m.distance(x)
		if m.isActive(x.prefix) {
			x.feasible = min(x.feasible, d)
			return
		}
		x.feasible = min(x.told, d)
		if x.told == d {
			return
		}
		x.told = d
		for _, port := range slices.Sorted(maps.Keys(m.cost)) {
			m.send(port, x)
		}
		if len(m.cost) > 0 {
			return
		}
	}
}

func (m *model) lookAtAll() {
	for _, k := range m.keys() {
		m.look(m.items[k])
	}
}

func (m *model) goDown(port int) {
	delete(m.cost, port)
	for _, x := range m.items {
		delete(x.said, port)
	}
	from := func(at place) bool { return at.port == port }
	maps.DeleteFunc(m.has, func(at place, _ int) bool { return from(at) })
	maps.DeleteFunc(m.way, func(at place, _ []int) bool { return from(at) })
	m.lookAtAll()
}

// takes is how many more may be taken.
func (m *model) takes() int {
	n := m.room
	for _, x := range m.items {
		if x.taken && !x.own {
			n--
		}
	}
	return n
}

func (m *model) hear(port int, p api.Prefix, d int) {
	x := m.items[key(p)]
	if x == nil {
		x = &item{prefix: p, taken: m.takes() > 0, said: map[int]int{}, told: 255, feasible: 255}
		m.items[key(p)] = x
	}
	x.said[port] = d
	if d == 255 {
		delete(x.said, port)
	}
	m.look(x)
}

func (m *model) ack(port int, p api.Prefix) {
	at := place{port, p}
	m.has[at], m.way[at] = m.way[at][0], m.way[at][1:]
	if !m.isActive(p) {
		m.look(m.items[key(p)])
	}
}

func (m *model) there(x *item) bool {
	return x.own || len(x.said) > 0 || x.told < 255 || m.isActive(x.prefix)
}

// leave lets the first one go that is not there, and takes the first one that may be taken for it: on and on.
func (m *model) leave() {
	for _, k := range m.keys() {
		if x := m.items[k]; !m.there(x) {
			delete(m.items, k)
			if x.taken {
				m.take()
			}
			m.leave()
			return
		}
	}
}

func (m *model) take() {
	for _, k := range m.keys() {
		if x := m.items[k]; !x.taken {
			x.taken = true
			m.look(x)
			return
		}
	}
}

// wrong is why e is refused.
func (m *model) wrong(e api.CoreEvent) api.Errno {
	names := map[api.CoreKind]string{1: "cost", 2: "", 3: "cost", 4: "prefix distance", 5: "prefix"}
	what, is := names[e.Kind]
	_, up := m.cost[e.Port]
	has := func(name string) bool { return strings.Contains(what, name) }
	switch {
	case !is, e.Port < 0, e.Port > 7,
		has("cost") && (e.Cost < 1 || e.Cost > 50), !has("cost") && e.Cost != 0,
		!goodPrefix(e.Prefix), !has("prefix") && (e.Prefix.Addr != 0 || e.Prefix.Len != 0),
		e.Distance < 0, e.Distance > 255, !has("distance") && e.Distance != 0:
		return 2
	case e.Kind != 1 && !up, e.Kind == 5 && len(m.way[place{e.Port, e.Prefix}]) == 0:
		return 7
	case e.Kind == 4 && m.items[key(e.Prefix)] == nil && len(m.items) >= 1024:
		return 5
	}
	return 0
}

func (m *model) do(e api.CoreEvent) ([]api.Told, api.Errno) {
	if bad := m.wrong(e); bad != 0 {
		return nil, bad
	}
	m.out = nil
	switch e.Kind {
	case 1:
		if _, up := m.cost[e.Port]; up {
			m.goDown(e.Port)
		}
		m.cost[e.Port] = e.Cost
		for _, k := range m.keys() {
			if x := m.items[k]; x.told < 255 {
				m.send(e.Port, x)
			}
		}
	case 2:
		m.goDown(e.Port)
	case 3:
		m.cost[e.Port] = e.Cost
		m.lookAtAll()
	case 4:
		m.hear(e.Port, e.Prefix, e.Distance)
	case 5:
		m.ack(e.Port, e.Prefix)
	}
	m.leave()
	return m.out, 0
}

func (m *model) entry(x *item) api.Entry {
	e := api.Entry{Prefix: x.prefix, Own: x.own, Taken: x.taken, Active: m.isActive(x.prefix), Distance: m.distance(x), Told: x.told, Feasible: x.feasible}
	for port := range 8 {
		e.Said[port] = 255
		if d, is := x.said[port]; is {
			e.Said[port] = d
		}
	}
	return e
}

// entries are all that there are, and routes what is known of them.
func (m *model) entries() (l []api.Entry, routes []api.Route) {
	for _, k := range m.keys() {
		x := m.items[k]
		e := m.entry(x)
		l = append(l, e)
		routes = append(routes, api.Route{Prefix: e.Prefix, Own: e.Own, Taken: e.Taken, Distance: e.Distance, Next: m.next(x)})
	}
	return l, routes
}

// pair is a core with its model. What is done to it is done to both; it fails if these do not answer the same.
type pair struct {
	c *Core
	m *model
}

func made(t *testing.T, room int, own ...api.Prefix) *Core {
	t.Helper()
	c, e := New(room, own...)
	if c == nil || e != api.OK {
		t.Fatalf("New(%d, %v): %v, %d", room, own, c, e)
	}
	return c
}

func both(t *testing.T, room int, own ...api.Prefix) *pair {
	t.Helper()
	p := &pair{made(t, room, own...), fresh(room, own...)}
	p.looked(t)
	return p
}

func (p *pair) copied() *pair { return &pair{p.c.Copy(), p.m.copied()} }

// do answers what was told, as a text.
func (p *pair) do(t *testing.T, e api.CoreEvent) string {
	t.Helper()
	want, bad := p.m.do(e)
	got, err := p.c.Do(e)
	if err != bad || !slices.Equal(got, want) {
		t.Fatalf("%v: %s, %d, not %s, %d; then %s", e, tell(got), err, tell(want), bad, p.place())
	}
	text := tell(got)
	// What shares memory with it would be seen to be another thing then.
	for i := range got[:cap(got)] {
		got[:cap(got)][i] = api.Told{Port: 77}
	}
	p.looked(t)
	return text
}

// looked fails if anything that is looked at is another thing than it ought to be.
func (p *pair) looked(t *testing.T) {
	t.Helper()
	entries, routes := p.m.entries()
	looks(t, p.c, entries, routes)
	for port := -1; port <= 8; port++ {
		want, is := p.m.cost[port]
		if cost, up := p.c.Up(port); cost != want || up != is {
			t.Fatalf("Up(%d): %d, %t, not %d, %t", port, cost, up, want, is)
		}
	}
	p.follows(t)
}

// looks fails if anything else is told of these entries.
func looks(t *testing.T, c *Core, entries []api.Entry, routes []api.Route) {
	t.Helper()
	passive := true
	for _, want := range entries {
		passive = passive && !want.Active
		if got, is := c.Entry(want.Prefix); got != want || !is {
			t.Fatalf("Entry: %v, %t, not %v", got, is, want)
		}
		for _, near := range []api.Prefix{{Addr: want.Prefix.Addr, Len: want.Prefix.Len + 1}, {Addr: want.Prefix.Addr, Len: want.Prefix.Len - 1}, {Addr: want.Prefix.Addr + 1, Len: want.Prefix.Len}} {
			found := slices.ContainsFunc(entries, func(e api.Entry) bool { return e.Prefix == near })
			if got, is := c.Entry(near); is != found || !is && got != (api.Entry{}) {
				t.Fatalf("Entry(%v): %v, %t", near, got, is)
			}
		}
	}
	if got := all(t, c); !slices.Equal(got, entries) {
		t.Fatalf("All: %v, not %v", got, entries)
	}
	if c.Passive() != passive {
		t.Fatalf("Passive: not %t", passive)
	}
	got := c.Routes()
	if !slices.EqualFunc(got, routes, sameRoute) {
		t.Fatalf("Routes: %v, not %v", got, routes)
	}
	overwrite(got)
}

func sameRoute(a, b api.Route) bool {
	return a.Prefix == b.Prefix && a.Own == b.Own && a.Taken == b.Taken && a.Distance == b.Distance && slices.Equal(a.Next, b.Next)
}

// overwrite writes over all memory that routes have.
func overwrite(l []api.Route) {
	for i := range l {
		next := l[i].Next[:cap(l[i].Next)]
		for j := range next {
			next[j] = api.Next{Port: 77, Distance: 77}
		}
		l[i] = api.Route{Distance: 77}
	}
}

// all is what one ranges over.
func all(t *testing.T, c *Core) []api.Entry {
	t.Helper()
	var l []api.Entry
	for p, e := range c.All() {
		if p != e.Prefix {
			t.Fatalf("All: %v: %v", p, e)
		}
		l = append(l, e)
	}
	return l
}

// follows fails if what the document says of a core, whatever happened to it, does not hold: it asks what neighbours may hold, of which the core itself knows nothing.
func (p *pair) follows(t *testing.T) {
	t.Helper()
	for _, e := range all(t, p.c) {
		if !e.Active && e.Feasible > e.Distance {
			t.Fatalf("feasible above the distance: %v", e)
		}
	}
	held := func(at place, d int) {
		t.Helper()
		e, is := p.c.Entry(at.prefix)
		if d < 255 && (!is || e.Feasible > d) {
			t.Fatalf("port %d may hold %d: %v, %t", at.port, d, e, is)
		}
	}
	for at, d := range p.m.has {
		held(at, d)
	}
	for at, l := range p.m.way {
		for _, d := range l {
			held(at, d)
		}
	}
}

// place tells how a core goes on: all that it has, as a text.
func (p *pair) place() string {
	var b strings.Builder
	for port := range 8 {
		if cost, up := p.c.Up(port); up {
			fmt.Fprintf(&b, "port %d: %d; ", port, cost)
		}
	}
	b.WriteString(show(p.c))
	for _, k := range p.m.keys() {
		for port := range 8 {
			at := place{port, p.m.items[k].prefix}
			if l := p.m.way[at]; len(l) > 0 {
				fmt.Fprintf(&b, "; %s awaited from %d: %d", name(at.prefix), port, l)
			}
		}
	}
	return b.String()
}

// name is a prefix as a text: of one of whole numbers of 256 nets the first one, and the length.
func name(p api.Prefix) string {
	if p.Addr<<8 == 0 {
		return fmt.Sprintf("%d/%d", p.Addr>>24, p.Len)
	}
	return fmt.Sprintf("%08x/%d", uint32(p.Addr), p.Len)
}

// tell is updates as a text.
func tell(l []api.Told) string {
	var b []string
	for _, u := range l {
		b = append(b, fmt.Sprintf("%d:%s=%d", u.Port, name(u.Update.Prefix), u.Update.Distance))
	}
	return strings.Join(b, " ")
}

// show is all entries as a text: the prefix; own, taken or waits; is it active; the distance, what was told, the feasible distance; what was said, and the successors, by ports.
func show(c *Core) string {
	routes := c.Routes()
	var b []string
	i := 0
	for _, e := range c.All() {
		b = append(b, showEntry(e, routes[i].Next))
		i++
	}
	return strings.Join(b, "; ")
}

func showEntry(e api.Entry, next []api.Next) string {
	text := name(e.Prefix)
	switch {
	case e.Own:
		text += " own"
	case !e.Taken:
		text += " waits"
	}
	if e.Active {
		text += " active"
	}
	text += fmt.Sprintf(" %d,%d,%d", e.Distance, e.Told, e.Feasible)
	for port, d := range e.Said {
		if d != 255 {
			text += fmt.Sprintf(" %d:%d", port, d)
		}
	}
	if len(next) > 0 {
		text += " by"
	}
	for _, n := range next {
		text += fmt.Sprintf(" %d:%d", n.Port, n.Distance)
	}
	return text
}
