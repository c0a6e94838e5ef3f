package lfi

import (
	"testing"

	"guidepost/api"
)

// What follows from each step: P12.1 to P12.4, of one core and whatever comes to it.

// small is a small world: what a core begins with, and of which numbers all events are made.
type small struct {
	room, ports     int
	own, heard      []api.Prefix
	cost, distances []int
}

func (s small) events() []api.CoreEvent {
	var l []api.CoreEvent
	for port := range s.ports {
		l = append(l, down(port))
		for _, n := range s.cost {
			l = append(l, up(port, n), costs(port, n))
		}
		for _, p := range s.heard {
			l = append(l, acked(port, p))
			for _, d := range s.distances {
				l = append(l, heard(port, p, d))
			}
		}
		for _, p := range s.own {
			l = append(l, acked(port, p))
		}
	}
	return l
}

// walk goes all states, up to so many, and from each by each event.
func (s small) walk(t *testing.T, most int) int {
	t.Helper()
	p := both(t, s.room, s.own...)
	left, been := []*pair{p}, map[string]bool{p.place(): true}
	for len(left) > 0 {
		p := left[0]
		left = left[1:]
		for _, e := range s.events() {
			q := p.copied()
			q.do(t, e)
			if at := q.place(); !been[at] && len(been) < most {
				been[at] = true
				left = append(left, q)
			}
		}
		p.looked(t)
	}
	return len(been)
}

// TestEachStepFromEach goes all states of worlds of one prefix.
func TestEachStepFromEach(t *testing.T) {
	t.Parallel()
	for _, s := range []small{
		{room: 1, ports: 1, heard: []api.Prefix{net(11)}, cost: []int{1, 2, 50}, distances: []int{0, 1, 5, 204, 205, 253, 254, 255}},
		{room: 1, ports: 2, heard: []api.Prefix{net(11)}, cost: []int{1, 3}, distances: []int{1, 2, 253, 255}},
		{room: 0, ports: 2, own: []api.Prefix{net(11)}, heard: []api.Prefix{net(11)}, cost: []int{1, 50}, distances: []int{0, 1, 255}},
		{room: 0, ports: 2, heard: []api.Prefix{net(11), long(11, 9)}, cost: []int{1}, distances: []int{0, 3, 254, 255}},
	} {
		if n := s.walk(t, 1<<20); n < 100 {
			t.Error(s, n)
		}
	}
}

// TestEachStepFromMany goes some of the states of greater ones: all that are reached by few steps.
func TestEachStepFromMany(t *testing.T) {
	t.Parallel()
	for _, s := range []small{
		{room: 1, ports: 2, heard: []api.Prefix{net(12), long(12, 9), net(11)}, cost: []int{2}, distances: []int{1, 254, 255}},
		{room: 1, ports: 3, own: []api.Prefix{net(10)}, heard: []api.Prefix{net(11)}, cost: []int{1, 4}, distances: []int{1, 3, 255}},
		{room: 2, ports: 1, own: []api.Prefix{net(13)}, heard: []api.Prefix{net(14), net(12), long(0, 0)}, cost: []int{1, 5}, distances: []int{2, 255}},
	} {
		if n := s.walk(t, 2000); n < 2000 {
			t.Error(s, n)
		}
	}
}

// chance tells numbers that look like no others: the same ones for each seed.
type chance uint32

func (c *chance) below(n int) int {
	*c = *c*1664525 + 1013904223
	return int(*c>>8) % n
}

// prefix is one of few, of which some are within others.
func (c *chance) prefix() api.Prefix {
	l := []api.Prefix{long(0, 0), long(0, 32), net(10), long(10, 9), long(10, 32), net(11), long(11, 16), net(200), {Addr: 1<<32 - 1, Len: 32}, {Addr: 0x0a800000, Len: 9}}
	return l[c.below(len(l))]
}

// distance is one that is mostly small.
func (c *chance) distance() int {
	switch c.below(5) {
	case 0:
		return 255
	case 1:
		return 195 + c.below(60)
	}
	return c.below(12)
}

func (c *chance) cost() int {
	if c.below(4) == 0 {
		return 1 + c.below(50)
	}
	return 1 + c.below(4)
}

// event is one that mostly may be.
func (c *chance) event() api.CoreEvent {
	port := c.below(4) + 4*c.below(2)*c.below(2)
	switch what := c.below(20); {
	case what < 2:
		return up(port, c.cost())
	case what < 3:
		return down(port)
	case what < 5:
		return costs(port, c.cost())
	case what < 13:
		return heard(port, c.prefix(), c.distance())
	}
	return acked(port, c.prefix())
}

// awaited is an acknowledgement that is awaited, or another event, if none is.
func (c *chance) awaited(t *testing.T, p *pair) api.CoreEvent {
	t.Helper()
	var l []api.CoreEvent
	for _, e := range all(t, p.c) {
		for port := range api.MaxPorts {
			if len(p.m.way[place{port, e.Prefix}]) > 0 {
				l = append(l, acked(port, e.Prefix))
			}
		}
	}
	if len(l) == 0 {
		return c.event()
	}
	return l[c.below(len(l))]
}

// TestWhateverHappens: long rows by chance, of several cores of which some are copies of others.
func TestWhateverHappens(t *testing.T) {
	t.Parallel()
	ended, told := 0, 0
	for seed := range 60 {
		c := chance(seed)
		ps := make([]*pair, 3)
		for i := range ps {
			var own []api.Prefix
			if c.below(2) == 0 {
				own = []api.Prefix{net(10), long(11, 16)}[:1+c.below(2)]
			}
			ps[i] = both(t, c.below(7), own...)
		}
		for range 400 {
			i := c.below(len(ps))
			p := ps[i]
			was := p.c.Passive()
			switch c.below(40) {
			case 0:
				ps[c.below(len(ps))] = p.copied()
			default:
				e := c.event()
				if c.below(3) > 0 {
					e = c.awaited(t, p)
				}
				if p.do(t, e) != "" {
					told++
				}
			}
			if !was && p.c.Passive() {
				ended++
			}
			for _, q := range ps {
				q.looked(t)
			}
		}
	}
	// Rows in which hardly anything is told, or known to all in the end, would tell little.
	if told < 2000 || ended < 1000 {
		t.Error(told, ended)
	}
}

// TestWhateverComesIsAwaitedOnce: as many acknowledgements are taken as updates went out, from each port, of each prefix.
func TestWhateverComesIsAwaitedOnce(t *testing.T) {
	t.Parallel()
	for seed := range 40 {
		c := chance(seed + 900)
		p := both(t, 3, net(10))
		type to struct {
			port   int
			prefix api.Prefix
		}
		went := map[to]int{}
		for range 300 {
			e := c.event()
			if c.below(2) == 0 {
				e = c.awaited(t, p)
			}
			l, bad := p.c.Do(e)
			p.m.do(e)
			if e.Kind == api.CoreAcked {
				if may := went[to{e.Port, e.Prefix}] > 0; (bad == api.OK) != may {
					t.Fatal(e, bad, went)
				}
			}
			if bad != api.OK {
				continue
			}
			switch e.Kind {
			case api.CoreAcked:
				went[to{e.Port, e.Prefix}]--
			case api.CorePortUp, api.CorePortDown:
				for at := range went {
					if at.port == e.Port {
						delete(went, at)
					}
				}
			}
			for _, u := range l {
				went[to{u.Port, u.Update.Prefix}]++
			}
			p.looked(t)
		}
	}
}
