package lfi

import (
	"fmt"
	"iter"
	"math"
	"slices"
	"strings"
	"testing"

	"guidepost/api"
)

// The events.

func up(port, cost int) api.CoreEvent {
	return api.CoreEvent{Kind: api.CorePortUp, Port: port, Cost: cost}
}

func down(port int) api.CoreEvent {
	return api.CoreEvent{Kind: api.CorePortDown, Port: port}
}

func costs(port, cost int) api.CoreEvent {
	return api.CoreEvent{Kind: api.CoreCost, Port: port, Cost: cost}
}

func heard(port int, p api.Prefix, d int) api.CoreEvent {
	return api.CoreEvent{Kind: api.CoreHeard, Port: port, Prefix: p, Distance: d}
}

func acked(port int, p api.Prefix) api.CoreEvent {
	return api.CoreEvent{Kind: api.CoreAcked, Port: port, Prefix: p}
}

// net is a prefix whose first byte is n.
func net(n int) api.Prefix { return long(n, 8) }

func long(n, length int) api.Prefix {
	return api.Prefix{Addr: api.Addr(n) << 24, Len: length}
}

// step is an event, and what comes of it: the updates that go out, and then all entries, as texts.
type step struct {
	e          api.CoreEvent
	told, then string
}

func (p *pair) run(t *testing.T, steps ...step) {
	t.Helper()
	for i, s := range steps {
		if told := p.do(t, s.e); told != s.told {
			t.Fatalf("%d: %v: told %q, not %q", i, s.e, told, s.told)
		}
		if then := show(p.c); then != s.then {
			t.Fatalf("%d: %v: %q, not %q", i, s.e, then, s.then)
		}
	}
}

// all does all of these.
func (p *pair) all(t *testing.T, l ...api.CoreEvent) {
	t.Helper()
	for _, e := range l {
		if _, bad := p.m.copied().do(e); bad != api.OK {
			t.Fatalf("%v: %d", e, bad)
		}
		p.do(t, e)
	}
}

// calm acknowledges all that is awaited, port by port, till nothing is.
func (p *pair) calm(t *testing.T) {
	t.Helper()
	for more := true; more; {
		more = false
		for port := range api.MaxPorts {
			for _, e := range all(t, p.c) {
				if len(p.m.way[place{port, e.Prefix}]) > 0 {
					p.do(t, acked(port, e.Prefix))
					more = true
				}
			}
		}
	}
	if !p.c.Passive() {
		t.Fatal("active: " + p.place())
	}
}

// begun is one of a room, with ports up that all cost 2, to which those events happened, and of which all is acknowledged.
func begun(t *testing.T, room, ports int, own []api.Prefix, l ...api.CoreEvent) *pair {
	t.Helper()
	p := both(t, room, own...)
	for port := range ports {
		p.all(t, up(port, 2))
	}
	p.calm(t)
	for _, e := range l {
		p.all(t, e)
		p.calm(t)
	}
	return p
}

// missing are cores that are not there, and zero ones.
func missing() []*Core { return []*Core{nil, {}, new(Core)} }

// P12.1

func TestNewRoom(t *testing.T) {
	for room, may := range map[int]bool{math.MinInt: false, -64: false, -1: false, 0: true, 1: true, 2: true, 63: true, api.MaxRoom: true, api.MaxRoom + 1: false, 256: false, 1<<32 + 1: false, math.MaxInt: false} {
		for _, own := range [][]api.Prefix{nil, {}, {net(10)}, {net(10), net(11)}} {
			c, e := New(room, own...)
			if !may {
				if c != nil || e != api.ErrArg {
					t.Errorf("New(%d, %v): %v, %d", room, own, c, e)
				}
				continue
			}
			both(t, room, own...)
		}
	}
}

// nets are so many prefixes, the greatest first.
func nets(n int) []api.Prefix {
	var l []api.Prefix
	for i := range n {
		l = append(l, net(n-i))
	}
	return l
}

func TestNewOwn(t *testing.T) {
	for n := range 2*api.MaxOwn + 2 {
		c, e := New(3, nets(n)...)
		if may := n <= 8; (e == api.OK) != may || (c != nil) != may || e != api.OK && e != api.ErrArg {
			t.Errorf("%d: %v, %d", n, c, e)
		}
	}
	for n := range 9 {
		p := both(t, 3, nets(n)...)
		var want []string
		for i := range n {
			want = append(want, fmt.Sprintf("%d/8 own 0,0,0", i+1))
		}
		if got := show(p.c); got != strings.Join(want, "; ") || !p.c.Passive() {
			t.Error(n, got)
		}
	}
}

// prefixes are some, and whether they may be.
func prefixes() map[api.Prefix]bool {
	return map[api.Prefix]bool{
		{Addr: 0, Len: 0}:            true,
		{Addr: 0, Len: 1}:            true,
		{Addr: 0, Len: 31}:           true,
		{Addr: 0, Len: 32}:           true,
		{Addr: 0, Len: 33}:           false,
		{Addr: 0, Len: -1}:           false,
		{Addr: 0, Len: math.MinInt}:  false,
		{Addr: 0, Len: math.MaxInt}:  false,
		{Addr: 0, Len: 1 << 32}:      false,
		{Addr: 0, Len: 256}:          false,
		{Addr: 1, Len: 32}:           true,
		{Addr: 1, Len: 31}:           false,
		{Addr: 1, Len: 0}:            false,
		{Addr: 1, Len: 33}:           false,
		{Addr: 1, Len: -1}:           false,
		{Addr: 2, Len: 31}:           true,
		{Addr: 1 << 31, Len: 0}:      false,
		{Addr: 1 << 31, Len: 1}:      true,
		{Addr: 1<<32 - 1, Len: 32}:   true,
		{Addr: 1<<32 - 1, Len: 31}:   false,
		{Addr: 0x0a000000, Len: 7}:   true,
		{Addr: 0x0a000000, Len: 6}:   false,
		{Addr: 0x0a000000, Len: 8}:   true,
		{Addr: 0x0a000100, Len: 8}:   false,
		{Addr: 0x0a000100, Len: 23}:  false,
		{Addr: 0x0a000100, Len: 24}:  true,
		{Addr: 0x0a000000, Len: -24}: false,
	}
}

func TestNewPrefixes(t *testing.T) {
	for p, may := range prefixes() {
		for _, own := range [][]api.Prefix{{p}, {net(77), p}, {p, net(77)}, {net(76), p, net(77)}} {
			c, e := New(3, own...)
			if (e == api.OK) != may || (c != nil) != may || e != api.OK && e != api.ErrArg {
				t.Errorf("%v: %v, %d", own, c, e)
			}
			if may {
				both(t, 3, own...)
			}
		}
	}
}

func TestNewTwoThatAreOne(t *testing.T) {
	for _, own := range [][]api.Prefix{
		{net(10), net(10)},
		{net(10), net(11), net(10)},
		{net(11), net(10), net(10)},
		{long(0, 0), long(0, 0)},
		{{Addr: 7, Len: 32}, {Addr: 7, Len: 32}},
		append(nets(7), net(1)),
		append(nets(7), net(7)),
		append(nets(8), net(1)),
	} {
		if c, e := New(3, own...); c != nil || e != api.ErrArg {
			t.Errorf("%v: %v, %d", own, c, e)
		}
	}
	p := both(t, 3, long(10, 9), net(10), long(10, 32), net(11), long(0, 0), long(0, 1), long(0, 32))
	if got := show(p.c); got != "0/0 own 0,0,0; 0/1 own 0,0,0; 0/32 own 0,0,0; 10/8 own 0,0,0; 10/9 own 0,0,0; 10/32 own 0,0,0; 11/8 own 0,0,0" {
		t.Error(got)
	}
}

func TestNewIsHandedAList(t *testing.T) {
	own := []api.Prefix{net(12), net(10), net(11), net(13)}[:3]
	p := both(t, 3, own...)
	if !slices.Equal(own[:4], []api.Prefix{net(12), net(10), net(11), net(13)}) {
		t.Error(own[:4])
	}
	for i := range own[:4] {
		own[:4][i] = net(77)
	}
	p.looked(t)
	p.run(t, step{up(1, 4), "1:10/8=0 1:11/8=0 1:12/8=0", "10/8 own active 0,0,0; 11/8 own active 0,0,0; 12/8 own active 0,0,0"})
}

func TestNewEachApart(t *testing.T) {
	p, q := both(t, 3, net(10)), both(t, 3, net(10))
	p.all(t, up(0, 1), heard(0, net(11), 4))
	q.looked(t)
	q.all(t, up(0, 5), heard(0, net(10), 4), down(0))
	p.looked(t)
}

func TestExample(t *testing.T) {
	p := both(t, 9, net(10))
	p.run(t,
		step{up(0, 3), "0:10/8=0", "10/8 own active 0,0,0"},
		step{heard(0, net(11), 4), "0:11/8=7", "10/8 own active 0,0,0; 11/8 active 7,7,7 0:4 by 0:7"},
		step{acked(0, net(11)), "", "10/8 own active 0,0,0; 11/8 7,7,7 0:4 by 0:7"},
		step{heard(0, net(11), 255), "0:11/8=255", "10/8 own active 0,0,0; 11/8 active 255,255,7"},
		step{acked(0, net(11)), "", "10/8 own active 0,0,0"},
	)
}

func TestPortUp(t *testing.T) {
	p := both(t, 3, net(12), net(10))
	own := "10/8 own active 0,0,0; 12/8 own active 0,0,0"
	p.run(t,
		step{up(7, 50), "7:10/8=0 7:12/8=0", own},
		step{heard(7, net(11), 4), "7:11/8=54", "10/8 own active 0,0,0; 11/8 active 54,54,54 7:4 by 7:54; 12/8 own active 0,0,0"},
		// To the new port alone, also of what is active.
		step{up(0, 1), "0:10/8=0 0:11/8=54 0:12/8=0", "10/8 own active 0,0,0; 11/8 active 54,54,54 7:4 by 7:54; 12/8 own active 0,0,0"},
		step{heard(7, net(9), 255), "", "10/8 own active 0,0,0; 11/8 active 54,54,54 7:4 by 7:54; 12/8 own active 0,0,0"},
		step{heard(7, net(9), 254), "", "9/8 255,255,255 7:254; 10/8 own active 0,0,0; 11/8 active 54,54,54 7:4 by 7:54; 12/8 own active 0,0,0"},
		// Of what was told to nobody, or was taken back, nothing goes there.
		step{heard(7, net(11), 255), "", "9/8 255,255,255 7:254; 10/8 own active 0,0,0; 11/8 active 255,54,54; 12/8 own active 0,0,0"},
		step{up(3, 1), "3:10/8=0 3:11/8=54 3:12/8=0", "9/8 255,255,255 7:254; 10/8 own active 0,0,0; 11/8 active 255,54,54; 12/8 own active 0,0,0"},
		step{acked(0, net(11)), "", "9/8 255,255,255 7:254; 10/8 own active 0,0,0; 11/8 active 255,54,54; 12/8 own active 0,0,0"},
		step{acked(3, net(11)), "", "9/8 255,255,255 7:254; 10/8 own active 0,0,0; 11/8 active 255,54,54; 12/8 own active 0,0,0"},
		step{acked(7, net(11)), "0:11/8=255 3:11/8=255 7:11/8=255", "9/8 255,255,255 7:254; 10/8 own active 0,0,0; 11/8 active 255,255,54; 12/8 own active 0,0,0"},
		step{up(1, 1), "1:10/8=0 1:12/8=0", "9/8 255,255,255 7:254; 10/8 own active 0,0,0; 11/8 active 255,255,54; 12/8 own active 0,0,0"},
	)
}

// TestPortUpOfWhatIsPassive: it is active then, and goes on as it was.
func TestPortUpOfWhatIsPassive(t *testing.T) {
	p := begun(t, 3, 1, nil, heard(0, net(11), 4))
	p.run(t,
		step{up(1, 2), "1:11/8=6", "11/8 active 6,6,6 0:4 by 0:6"},
		step{heard(0, net(11), 8), "", "11/8 active 10,6,6 0:8"},
		step{heard(1, net(11), 5), "", "11/8 active 7,6,6 0:8 1:5 by 1:7"},
		step{heard(1, net(11), 6), "", "11/8 active 8,6,6 0:8 1:6"},
		step{acked(1, net(11)), "0:11/8=8 1:11/8=8", "11/8 active 8,8,6 0:8 1:6"},
		step{acked(1, net(11)), "", "11/8 active 8,8,6 0:8 1:6"},
		step{acked(0, net(11)), "", "11/8 8,8,8 0:8 1:6 by 1:8"},
	)
}

// TestPortUpWhileItIsUp: it goes down first.
func TestPortUpWhileItIsUp(t *testing.T) {
	p := begun(t, 3, 2, []api.Prefix{net(10)}, heard(0, net(11), 4), heard(1, net(11), 5), heard(1, net(12), 1))
	p.run(t,
		// What was said is said no more; port 1 hears what comes of that, and then port 0 hears all anew.
		step{up(0, 2), "1:11/8=7 0:10/8=0 0:11/8=7 0:12/8=3", "10/8 own active 0,0,0; 11/8 active 7,7,6 1:5 by 1:7; 12/8 active 3,3,3 1:1 by 1:3"},
		step{up(0, 9), "0:10/8=0 0:11/8=7 0:12/8=3", "10/8 own active 0,0,0; 11/8 active 7,7,6 1:5 by 1:7; 12/8 active 3,3,3 1:1 by 1:3"},
		step{acked(0, net(11)), "", "10/8 own active 0,0,0; 11/8 active 7,7,6 1:5 by 1:7; 12/8 active 3,3,3 1:1 by 1:3"},
		step{acked(1, net(11)), "", "10/8 own active 0,0,0; 11/8 7,7,7 1:5 by 1:7; 12/8 active 3,3,3 1:1 by 1:3"},
		step{acked(0, net(10)), "", "10/8 own 0,0,0; 11/8 7,7,7 1:5 by 1:7; 12/8 active 3,3,3 1:1 by 1:3"},
		step{acked(0, net(12)), "", "10/8 own 0,0,0; 11/8 7,7,7 1:5 by 1:7; 12/8 3,3,3 1:1 by 1:3"},
	)
	if cost, is := p.c.Up(0); cost != 9 || !is {
		t.Error(cost, is)
	}
	// What was awaited of the elder one is awaited no more.
	if _, e := p.c.Do(acked(0, net(11))); e != api.ErrState {
		t.Error(e)
	}
}

// TestPortUpWhileItIsUpAndWhatGoes: what is not there any more goes behind the event, when the port is up again.
func TestPortUpWhileItIsUpAndWhatGoes(t *testing.T) {
	p := begun(t, 1, 2, []api.Prefix{net(10)}, heard(0, net(12), 4), heard(1, net(11), 5))
	p.run(t,
		step{heard(0, net(12), 255), "0:12/8=255 1:12/8=255", "10/8 own 0,0,0; 11/8 waits 255,255,255 1:5; 12/8 active 255,255,6"},
		step{acked(1, net(12)), "", "10/8 own 0,0,0; 11/8 waits 255,255,255 1:5; 12/8 active 255,255,6"},
		step{up(0, 2), "0:10/8=0 0:11/8=7 1:11/8=7", "10/8 own active 0,0,0; 11/8 active 7,7,7 1:5 by 1:7"},
	)
}

func TestPortDown(t *testing.T) {
	p := begun(t, 9, 3, []api.Prefix{net(10)}, heard(0, net(13), 4), heard(1, net(13), 5), heard(1, net(11), 1), heard(2, net(10), 3), heard(2, net(12), 8), heard(1, net(12), 9))
	p.run(t,
		step{down(1), "0:11/8=255 2:11/8=255", "10/8 own 0,0,0 2:3; 11/8 active 255,255,3; 12/8 10,10,10 2:8 by 2:10; 13/8 6,6,6 0:4 by 0:6"},
		step{down(2), "0:12/8=255", "10/8 own 0,0,0; 11/8 active 255,255,3; 12/8 active 255,255,10; 13/8 6,6,6 0:4 by 0:6"},
		// None is up then: all is passive, and what is not there goes.
		step{down(0), "", "10/8 own 0,0,0"},
	)
	if !p.c.Passive() {
		t.Error(p.place())
	}
	p.run(t, step{up(2, 2), "2:10/8=0", "10/8 own active 0,0,0"})
}

// TestPortDownOrder: updates go by entries, then by ports.
func TestPortDownOrder(t *testing.T) {
	p := begun(t, 9, 8, nil, heard(3, long(10, 9), 1), heard(3, net(9), 1), heard(3, net(10), 1), heard(3, long(9, 32), 1), heard(5, net(10), 1))
	p.run(t, step{down(3), "0:9/8=255 1:9/8=255 2:9/8=255 4:9/8=255 5:9/8=255 6:9/8=255 7:9/8=255" +
		" 0:9/32=255 1:9/32=255 2:9/32=255 4:9/32=255 5:9/32=255 6:9/32=255 7:9/32=255" +
		" 0:10/9=255 1:10/9=255 2:10/9=255 4:10/9=255 5:10/9=255 6:10/9=255 7:10/9=255",
		"9/8 active 255,255,3; 9/32 active 255,255,3; 10/8 3,3,3 5:1 by 5:3; 10/9 active 255,255,3"})
}

// TestPortDownWhileAwaited: what is awaited from the others only counts then.
func TestPortDownWhileAwaited(t *testing.T) {
	p := begun(t, 9, 3, nil, heard(0, net(11), 4))
	p.run(t,
		step{heard(0, net(11), 9), "0:11/8=11 1:11/8=11 2:11/8=11", "11/8 active 11,11,6 0:9"},
		step{acked(0, net(11)), "", "11/8 active 11,11,6 0:9"},
		step{acked(2, net(11)), "", "11/8 active 11,11,6 0:9"},
		// It was the last one: looked at, as none is awaited any more.
		step{down(1), "", "11/8 11,11,11 0:9 by 0:11"},
		step{heard(0, net(11), 1), "0:11/8=3 2:11/8=3", "11/8 active 3,3,3 0:1 by 0:3"},
		step{down(2), "", "11/8 active 3,3,3 0:1 by 0:3"},
		step{heard(0, net(11), 7), "", "11/8 active 9,3,3 0:7"},
		step{down(0), "", ""},
	)
}

// TestPortDownIsTheLastAwaited: what changed in between is told then.
func TestPortDownIsTheLastAwaited(t *testing.T) {
	p := begun(t, 9, 3, nil, heard(0, net(11), 4))
	p.run(t,
		step{heard(0, net(11), 9), "0:11/8=11 1:11/8=11 2:11/8=11", "11/8 active 11,11,6 0:9"},
		step{heard(0, net(11), 12), "", "11/8 active 14,11,6 0:12"},
		step{acked(0, net(11)), "", "11/8 active 14,11,6 0:12"},
		step{acked(1, net(11)), "", "11/8 active 14,11,6 0:12"},
		step{down(2), "0:11/8=14 1:11/8=14", "11/8 active 14,14,11 0:12"},
		step{acked(0, net(11)), "", "11/8 active 14,14,11 0:12"},
		step{acked(1, net(11)), "", "11/8 14,14,14 0:12 by 0:14"},
	)
}

func TestCost(t *testing.T) {
	p := begun(t, 9, 2, []api.Prefix{net(10)}, heard(0, net(12), 4), heard(0, net(11), 3), heard(1, net(11), 4), heard(1, net(13), 1))
	p.run(t,
		// It stays: nothing.
		step{costs(0, 2), "", "10/8 own 0,0,0; 11/8 5,5,5 0:3 1:4 by 0:5 1:6; 12/8 6,6,6 0:4 by 0:6; 13/8 3,3,3 1:1 by 1:3"},
		// It rises.
		step{costs(0, 5), "0:11/8=6 1:11/8=6 0:12/8=9 1:12/8=9", "10/8 own 0,0,0; 11/8 active 6,6,5 0:3 1:4 by 0:8 1:6; 12/8 active 9,9,6 0:4 by 0:9; 13/8 3,3,3 1:1 by 1:3"},
		// It falls, while they are active: the feasible distance falls with it.
		step{costs(0, 1), "", "10/8 own 0,0,0; 11/8 active 4,6,4 0:3 1:4 by 0:4; 12/8 active 5,9,5 0:4 by 0:5; 13/8 3,3,3 1:1 by 1:3"},
		step{costs(0, 50), "", "10/8 own 0,0,0; 11/8 active 6,6,4 0:3 1:4 by 0:53; 12/8 active 54,9,5 0:4 by 0:54; 13/8 3,3,3 1:1 by 1:3"},
		step{acked(0, net(11)), "", "10/8 own 0,0,0; 11/8 active 6,6,4 0:3 1:4 by 0:53; 12/8 active 54,9,5 0:4 by 0:54; 13/8 3,3,3 1:1 by 1:3"},
		step{acked(1, net(11)), "", "10/8 own 0,0,0; 11/8 6,6,6 0:3 1:4 by 0:53 1:6; 12/8 active 54,9,5 0:4 by 0:54; 13/8 3,3,3 1:1 by 1:3"},
		step{acked(0, net(12)), "", "10/8 own 0,0,0; 11/8 6,6,6 0:3 1:4 by 0:53 1:6; 12/8 active 54,9,5 0:4 by 0:54; 13/8 3,3,3 1:1 by 1:3"},
		step{acked(1, net(12)), "0:12/8=54 1:12/8=54", "10/8 own 0,0,0; 11/8 6,6,6 0:3 1:4 by 0:53 1:6; 12/8 active 54,54,9 0:4 by 0:54; 13/8 3,3,3 1:1 by 1:3"},
		// It falls, while they are passive.
		step{costs(1, 1), "0:11/8=5 1:11/8=5 0:13/8=2 1:13/8=2", "10/8 own 0,0,0; 11/8 active 5,5,5 0:3 1:4 by 0:53 1:5; 12/8 active 54,54,9 0:4 by 0:54; 13/8 active 2,2,2 1:1 by 1:2"},
	)
	if cost, is := p.c.Up(0); cost != 50 || !is {
		t.Error(cost, is)
	}
}

func TestHeard(t *testing.T) {
	p := begun(t, 9, 2, []api.Prefix{net(10)})
	own := "10/8 own 0,0,0; "
	p.run(t,
		step{heard(1, net(11), 4), "0:11/8=6 1:11/8=6", own + "11/8 active 6,6,6 1:4 by 1:6"},
		step{acked(0, net(11)), "", own + "11/8 active 6,6,6 1:4 by 1:6"},
		step{acked(1, net(11)), "", own + "11/8 6,6,6 1:4 by 1:6"},
		// Said again: nothing.
		step{heard(1, net(11), 4), "", own + "11/8 6,6,6 1:4 by 1:6"},
		// No nearer than the other one, but nearer than this: a second way.
		step{heard(0, net(11), 5), "", own + "11/8 6,6,6 0:5 1:4 by 0:7 1:6"},
		// Just as far as this one: none.
		step{heard(0, net(11), 6), "", own + "11/8 6,6,6 0:6 1:4 by 1:6"},
		// It falls.
		step{heard(0, net(11), 3), "0:11/8=5 1:11/8=5", own + "11/8 active 5,5,5 0:3 1:4 by 0:5 1:6"},
		step{heard(1, net(11), 0), "", own + "11/8 active 2,5,2 0:3 1:0 by 1:2"},
		step{acked(0, net(11)), "", own + "11/8 active 2,5,2 0:3 1:0 by 1:2"},
		step{acked(1, net(11)), "0:11/8=2 1:11/8=2", own + "11/8 active 2,2,2 0:3 1:0 by 1:2"},
		// It rises: what is feasible stays till all know.
		step{heard(1, net(11), 4), "", own + "11/8 active 5,2,2 0:3 1:4"},
		step{acked(1, net(11)), "", own + "11/8 active 5,2,2 0:3 1:4"},
		step{acked(0, net(11)), "0:11/8=5 1:11/8=5", own + "11/8 active 5,5,2 0:3 1:4"},
		step{heard(0, net(11), 1), "", own + "11/8 active 3,5,2 0:1 1:4 by 0:3"},
		step{acked(0, net(11)), "", own + "11/8 active 3,5,2 0:1 1:4 by 0:3"},
		step{acked(1, net(11)), "0:11/8=3 1:11/8=3", own + "11/8 active 3,3,3 0:1 1:4 by 0:3"},
		// Infinite, by one, and by both.
		step{heard(0, net(11), 255), "", own + "11/8 active 6,3,3 1:4"},
		step{heard(1, net(11), 255), "", own + "11/8 active 255,3,3"},
		step{acked(1, net(11)), "", own + "11/8 active 255,3,3"},
		step{acked(0, net(11)), "0:11/8=255 1:11/8=255", own + "11/8 active 255,255,3"},
		step{acked(0, net(11)), "", own + "11/8 active 255,255,3"},
		step{acked(1, net(11)), "", "10/8 own 0,0,0"},
		step{heard(1, net(11), 255), "", "10/8 own 0,0,0"},
	)
}

// TestHeardOfOneThatComesBack: it is told anew, when all have heard that it went.
func TestHeardOfOneThatComesBack(t *testing.T) {
	p := begun(t, 9, 2, nil, heard(0, net(11), 4))
	p.run(t,
		step{heard(0, net(11), 255), "0:11/8=255 1:11/8=255", "11/8 active 255,255,6"},
		step{heard(0, net(11), 5), "", "11/8 active 7,255,6 0:5 by 0:7"},
		step{heard(0, net(11), 6), "", "11/8 active 8,255,6 0:6"},
		step{acked(1, net(11)), "", "11/8 active 8,255,6 0:6"},
		step{acked(0, net(11)), "0:11/8=8 1:11/8=8", "11/8 active 8,8,8 0:6 by 0:8"},
		step{heard(0, net(11), 255), "", "11/8 active 255,8,8"},
		step{acked(1, net(11)), "", "11/8 active 255,8,8"},
		step{acked(0, net(11)), "0:11/8=255 1:11/8=255", "11/8 active 255,255,8"},
		step{acked(0, net(11)), "", "11/8 active 255,255,8"},
		step{acked(1, net(11)), "", ""},
		// It knows nothing of it any more.
		step{heard(0, net(11), 20), "0:11/8=22 1:11/8=22", "11/8 active 22,22,22 0:20 by 0:22"},
	)
}

func TestHeardSums(t *testing.T) {
	for _, s := range []struct {
		said, cost int
		told, then string
	}{
		{0, 1, "0:11/8=1", "11/8 active 1,1,1 0:0 by 0:1"},
		{1, 1, "0:11/8=2", "11/8 active 2,2,2 0:1 by 0:2"},
		{0, 50, "0:11/8=50", "11/8 active 50,50,50 0:0 by 0:50"},
		{253, 1, "0:11/8=254", "11/8 active 254,254,254 0:253 by 0:254"},
		{254, 1, "", "11/8 255,255,255 0:254"},
		{253, 2, "", "11/8 255,255,255 0:253"},
		{254, 50, "", "11/8 255,255,255 0:254"},
		{204, 50, "0:11/8=254", "11/8 active 254,254,254 0:204 by 0:254"},
		{205, 50, "", "11/8 255,255,255 0:205"},
		{206, 50, "", "11/8 255,255,255 0:206"},
		{255, 1, "", ""},
		{255, 50, "", ""},
	} {
		p := both(t, 9)
		p.run(t, step{up(0, s.cost), "", ""}, step{heard(0, net(11), s.said), s.told, s.then})
	}
}

func TestHeardOfOwn(t *testing.T) {
	p := begun(t, 0, 2, []api.Prefix{net(10)})
	for _, d := range []int{0, 1, 254, 255, 0, 255} {
		then := "10/8 own 0,0,0"
		if d < 255 {
			then += fmt.Sprintf(" 1:%d", d)
		}
		p.run(t, step{heard(1, net(10), d), "", then})
	}
	p.run(t,
		step{heard(0, net(10), 0), "", "10/8 own 0,0,0 0:0"},
		step{up(2, 1), "2:10/8=0", "10/8 own active 0,0,0 0:0"},
		step{heard(1, net(10), 3), "", "10/8 own active 0,0,0 0:0 1:3"},
		step{acked(2, net(10)), "", "10/8 own 0,0,0 0:0 1:3"},
		step{down(0), "", "10/8 own 0,0,0 1:3"},
		step{down(1), "", "10/8 own 0,0,0"},
	)
}

func TestAcked(t *testing.T) {
	p := begun(t, 9, 3, []api.Prefix{net(10)}, heard(0, net(11), 4))
	p.all(t, heard(0, net(11), 6))
	// Of another prefix, of one that is not there, of an own one, from a port that is not up.
	for _, e := range []api.CoreEvent{acked(0, net(10)), acked(0, net(12)), acked(0, long(11, 9)), acked(0, long(0, 0)), acked(3, net(11))} {
		if _, bad := p.c.Do(e); bad != api.ErrState {
			t.Error(e, bad)
		}
		p.looked(t)
	}
	for i, port := range []int{1, 0, 2} {
		p.all(t, acked(port, net(11)))
		if _, bad := p.c.Do(acked(port, net(11))); bad != api.ErrState {
			t.Error(port, bad)
		}
		if e, _ := p.c.Entry(net(11)); e.Active != (i < 2) {
			t.Error(port, e)
		}
	}
	p.looked(t)
	// Each update anew awaits one.
	for round := range 4 {
		p.all(t, heard(0, net(11), 10+round), acked(2, net(11)), acked(1, net(11)))
		for _, port := range []int{1, 2} {
			if _, bad := p.c.Do(acked(port, net(11))); bad != api.ErrState {
				t.Error(round, port, bad)
			}
		}
		p.all(t, acked(0, net(11)))
		if !p.c.Passive() {
			t.Error(round, p.place())
		}
	}
}

// TestAckedOfOneThatWaits: nothing of it was told.
func TestAckedOfOneThatWaits(t *testing.T) {
	p := begun(t, 0, 2, nil, heard(0, net(11), 4))
	for port := range 2 {
		if _, bad := p.c.Do(acked(port, net(11))); bad != api.ErrState {
			t.Error(bad)
		}
	}
	p.looked(t)
}

// TestAckedOfAnOwnOne: to each port of its own, once for each time it came up.
func TestAckedOfAnOwnOne(t *testing.T) {
	p := both(t, 0, net(10), long(10, 9))
	for round := range 3 {
		p.all(t, up(4, 1), up(4, 2), acked(4, net(10)))
		if _, bad := p.c.Do(acked(4, net(10))); bad != api.ErrState {
			t.Error(round, bad)
		}
		p.all(t, acked(4, long(10, 9)))
		if !p.c.Passive() {
			t.Error(p.place())
		}
		p.all(t, down(4))
	}
}

func TestRoom(t *testing.T) {
	for _, room := range []int{0, 1, 2, api.MaxRoom - 1, api.MaxRoom} {
		p := begun(t, room, 1, []api.Prefix{net(200), net(201)})
		for n := range room + 3 {
			told := p.do(t, heard(0, net(n+1), 1))
			e, is := p.c.Entry(net(n + 1))
			if may := n < room; (told != "") != may || e.Taken != may || !is {
				t.Fatal(room, n, told, e)
			}
		}
		// An own one finds room, whatever there is.
		p.run(t, step{heard(0, net(200), 1), "", strings.Replace(show(p.c), "200/8 own 0,0,0", "200/8 own 0,0,0 0:1", 1)})
	}
}

// TestRoomOfOneThatGoes: the least one that waits is taken, by address, then length; on and on.
func TestRoomOfOneThatGoes(t *testing.T) {
	p := begun(t, 1, 1, nil, heard(0, net(20), 1), heard(0, long(12, 32), 2), heard(0, net(13), 3), heard(0, long(12, 9), 4), heard(0, net(30), 5), heard(0, net(12), 6))
	wait := []string{"12/8 waits 255,255,255 0:6", "12/9 waits 255,255,255 0:4", "12/32 waits 255,255,255 0:2", "13/8 waits 255,255,255 0:3", "30/8 waits 255,255,255 0:5"}
	if got := show(p.c); got != strings.Join(slices.Insert(slices.Clone(wait), 4, "20/8 3,3,3 0:1 by 0:3"), "; ") {
		t.Fatal(got)
	}
	goes := net(20)
	for i, next := range []struct {
		prefix     api.Prefix
		told, then string
	}{
		{net(12), "0:12/8=8", "12/8 active 8,8,8 0:6 by 0:8"},
		{long(12, 9), "0:12/9=6", "12/9 active 6,6,6 0:4 by 0:6"},
		{long(12, 32), "0:12/32=4", "12/32 active 4,4,4 0:2 by 0:4"},
		{net(13), "0:13/8=5", "13/8 active 5,5,5 0:3 by 0:5"},
		{net(30), "0:30/8=7", "30/8 active 7,7,7 0:5 by 0:7"},
	} {
		// It stays till all know that it goes.
		p.all(t, heard(0, goes, 255))
		p.run(t, step{acked(0, goes), next.told, strings.Join(append([]string{next.then}, wait[i+1:]...), "; ")})
		goes = next.prefix
		p.all(t, acked(0, goes))
	}
	p.all(t, heard(0, goes, 255))
	p.run(t, step{acked(0, goes), "", ""})
}

// TestRoomOfSeveralThatGo: at once, and some that wait go as well.
func TestRoomOfSeveralThatGo(t *testing.T) {
	p := begun(t, 2, 2, nil,
		heard(0, net(20), 1), heard(0, net(21), 1),
		heard(0, net(11), 1), heard(1, net(12), 2), heard(0, net(13), 3), heard(1, net(13), 4), heard(1, net(9), 254), heard(1, net(30), 5))
	p.all(t, down(0))
	if got := show(p.c); got != "9/8 waits 255,255,255 1:254; 12/8 waits 255,255,255 1:2; 13/8 waits 255,255,255 1:4; 20/8 active 255,255,3; 21/8 active 255,255,3; 30/8 waits 255,255,255 1:5" {
		t.Fatal(got)
	}
	p.run(t,
		// The least one is taken, though it is Infinite by it, and stays.
		step{acked(1, net(21)), "", "9/8 255,255,255 1:254; 12/8 waits 255,255,255 1:2; 13/8 waits 255,255,255 1:4; 20/8 active 255,255,3; 30/8 waits 255,255,255 1:5"},
		step{costs(1, 1), "", "9/8 255,255,255 1:254; 12/8 waits 255,255,255 1:2; 13/8 waits 255,255,255 1:4; 20/8 active 255,255,3; 30/8 waits 255,255,255 1:5"},
		step{acked(1, net(20)), "1:12/8=3", "9/8 255,255,255 1:254; 12/8 active 3,3,3 1:2 by 1:3; 13/8 waits 255,255,255 1:4; 30/8 waits 255,255,255 1:5"},
		step{heard(1, net(9), 253), "1:9/8=254", "9/8 active 254,254,254 1:253 by 1:254; 12/8 active 3,3,3 1:2 by 1:3; 13/8 waits 255,255,255 1:4; 30/8 waits 255,255,255 1:5"},
		step{heard(1, net(9), 254), "", "9/8 active 255,254,254 1:254; 12/8 active 3,3,3 1:2 by 1:3; 13/8 waits 255,255,255 1:4; 30/8 waits 255,255,255 1:5"},
		step{acked(1, net(9)), "1:9/8=255", "9/8 active 255,255,254 1:254; 12/8 active 3,3,3 1:2 by 1:3; 13/8 waits 255,255,255 1:4; 30/8 waits 255,255,255 1:5"},
		step{acked(1, net(9)), "", "9/8 255,255,255 1:254; 12/8 active 3,3,3 1:2 by 1:3; 13/8 waits 255,255,255 1:4; 30/8 waits 255,255,255 1:5"},
		// One that waits goes, without being taken ever.
		step{heard(1, net(13), 255), "", "9/8 255,255,255 1:254; 12/8 active 3,3,3 1:2 by 1:3; 30/8 waits 255,255,255 1:5"},
		step{heard(1, net(9), 255), "1:30/8=6", "12/8 active 3,3,3 1:2 by 1:3; 30/8 active 6,6,6 1:5 by 1:6"},
	)
}

// TestRoomOfAllThatGoAtOnce: of as many as are taken, and of some that wait.
func TestRoomOfAllThatGoAtOnce(t *testing.T) {
	var l []api.CoreEvent
	for n := range 5 {
		l = append(l, heard(0, net(n+1), 254))
	}
	for _, n := range []int{14, 11, 13, 12} {
		l = append(l, heard(1, net(n), 1))
	}
	p := begun(t, 3, 2, []api.Prefix{net(10)}, l...)
	p.run(t, step{down(0), "1:11/8=3 1:12/8=3 1:13/8=3", "10/8 own 0,0,0; 11/8 active 3,3,3 1:1 by 1:3; 12/8 active 3,3,3 1:1 by 1:3; 13/8 active 3,3,3 1:1 by 1:3; 14/8 waits 255,255,255 1:1"})
}

// TestRoomOfOneThatIsInfinite: to be heard as Infinite takes no room, and nothing stays.
func TestRoomOfOneThatIsInfinite(t *testing.T) {
	for room := range 3 {
		p := begun(t, room, 2, nil)
		p.run(t,
			step{heard(0, net(11), 255), "", ""},
			step{heard(1, net(12), 255), "", ""},
			step{heard(1, net(12), 255), "", ""},
		)
		p.all(t, heard(0, net(13), 1), heard(0, net(11), 255))
		if e, _ := p.c.Entry(net(13)); e.Taken != (room > 0) {
			t.Error(room, e)
		}
	}
}

// full is one of as many entries as there may be.
func full(t *testing.T, own ...api.Prefix) *Core {
	t.Helper()
	c := made(t, 2, own...)
	for port := range 2 {
		if _, e := c.Do(up(port, 1)); e != api.OK {
			t.Fatal(e)
		}
	}
	for n := range 1024 - len(own) {
		if _, e := c.Do(heard(0, some(n), 7)); e != api.OK {
			t.Fatal(n, e)
		}
	}
	if n := len(all(t, c)); n != 1024 {
		t.Fatal(n)
	}
	return c
}

// some are prefixes, each another one.
func some(n int) api.Prefix { return api.Prefix{Addr: api.Addr(n) << 8, Len: 24} }

func TestMaxEntries(t *testing.T) {
	for own := range 3 {
		c := full(t, []api.Prefix{net(200), net(201)}[:own]...)
		was := show(c)
		refused := func(e api.CoreEvent, want api.Errno) {
			t.Helper()
			if l, err := c.Do(e); err != want || l != nil || show(c) != was {
				t.Fatal(own, e, l, err)
			}
		}
		for _, d := range []int{0, 1, 254, 255} {
			refused(heard(1, net(100), d), api.ErrFull)
			refused(heard(0, some(1024), d), api.ErrFull)
			// Which one comes first.
			refused(heard(2, net(100), d), api.ErrState)
			refused(heard(1, long(100, 2), d), api.ErrArg)
		}
		refused(heard(1, net(100), 256), api.ErrArg)
		refused(acked(1, net(100)), api.ErrState)
		// What is there may be heard.
		if _, e := c.Do(heard(1, some(1000), 3)); e != api.OK {
			t.Fatal(e)
		}
		if _, e := c.Do(heard(0, some(1000), 255)); e != api.OK {
			t.Fatal(e)
		}
		was = show(c)
		refused(heard(1, net(100), 3), api.ErrFull)
		// One goes: another one comes.
		if _, e := c.Do(heard(1, some(1000), 255)); e != api.OK {
			t.Fatal(e)
		}
		if _, e := c.Do(heard(1, net(100), 255)); e != api.OK {
			t.Fatal(e)
		}
		if _, e := c.Do(heard(1, net(100), 3)); e != api.OK {
			t.Fatal(e)
		}
		was = show(c)
		refused(heard(1, net(101), 3), api.ErrFull)
		if n := len(c.Routes()); n != 1024 {
			t.Error(n)
		}
	}
}

// TestMaxEntriesAllGo: all at once, and others come.
func TestMaxEntriesAllGo(t *testing.T) {
	c := full(t, net(200))
	for port := range 2 {
		if _, e := c.Do(down(port)); e != api.OK {
			t.Fatal(e)
		}
	}
	if got := show(c); got != "200/8 own 0,0,0" {
		t.Fatal(got)
	}
	if _, e := c.Do(up(0, 1)); e != api.OK {
		t.Fatal(e)
	}
	for n := range 1023 {
		if _, e := c.Do(heard(0, some(n), 7)); e != api.OK {
			t.Fatal(n, e)
		}
	}
	if _, e := c.Do(heard(0, some(1023), 7)); e != api.ErrFull {
		t.Fatal(e)
	}
}

// amid is one with two ports up, of which the first one's update of 11/8 is awaited; others are down.
func amid(t *testing.T) *pair {
	t.Helper()
	p := begun(t, 1, 2, []api.Prefix{net(10)}, heard(0, net(11), 4))
	p.all(t, heard(0, net(11), 7), acked(1, net(11)), heard(1, net(12), 3))
	return p
}

// great are numbers that are hardly any field's.
func great() []int { return []int{math.MinInt, -1, 256, 1 << 32, 1<<32 + 1, math.MaxInt} }

// TestWrongEvents: each value of a field, in events of each kind that may be but for that.
func TestWrongEvents(t *testing.T) {
	p := amid(t)
	kinds := append(great(), 0, 1, 2, 3, 4, 5, 6, 7)
	ports := append(great(), 0, 1, 2, 6, 7, 8, 9)
	cost := append(great(), 0, 1, 2, 49, 50, 51)
	distances := append(great(), 0, 1, 2, 254, 255)
	var l []api.CoreEvent
	for _, e := range []api.CoreEvent{up(0, 5), up(2, 5), down(0), costs(0, 5), heard(0, net(11), 4), heard(0, net(13), 4), acked(0, net(11)), {}} {
		vary := func(set func(e *api.CoreEvent)) {
			f := e
			set(&f)
			l = append(l, f)
		}
		for _, n := range kinds {
			vary(func(e *api.CoreEvent) { e.Kind = api.CoreKind(n) })
		}
		for _, n := range ports {
			vary(func(e *api.CoreEvent) { e.Port = n })
		}
		for _, n := range cost {
			vary(func(e *api.CoreEvent) { e.Cost = n })
		}
		for _, n := range distances {
			vary(func(e *api.CoreEvent) { e.Distance = n })
		}
		for q := range prefixes() {
			vary(func(e *api.CoreEvent) { e.Prefix = q })
		}
	}
	refused := map[api.Errno]int{}
	for _, e := range l {
		_, bad := p.m.copied().do(e)
		refused[bad]++
		p.copied().do(t, e)
	}
	p.looked(t)
	if refused[api.OK] < 60 || refused[api.ErrArg] < 200 || refused[api.ErrState] < 20 || len(refused) != 3 {
		t.Error(refused)
	}
}

// TestWhatAKindDoesNotName is refused, if it is set; and what it names may be zero, but for a cost.
func TestWhatAKindDoesNotName(t *testing.T) {
	p := amid(t)
	fields := []func(e *api.CoreEvent){
		func(e *api.CoreEvent) { e.Cost = 1 },
		func(e *api.CoreEvent) { e.Prefix = long(128, 1) },
		func(e *api.CoreEvent) { e.Prefix = long(0, 1) },
		func(e *api.CoreEvent) { e.Prefix = net(11) },
		func(e *api.CoreEvent) { e.Distance = 1 },
	}
	for may, names := range map[api.CoreEvent]string{
		up(0, 1):                "+----",
		down(0):                 "-----",
		costs(0, 1):             "+----",
		heard(0, net(11), 0):    "-++++",
		heard(0, long(0, 0), 0): "-++++",
		// An acknowledgement of another prefix is awaited by nobody.
		acked(0, net(11)): "-ss+-",
	} {
		if _, bad := p.copied().c.Do(may); bad != api.OK {
			t.Errorf("%v: %d", may, bad)
		}
		for i, set := range fields {
			e := may
			set(&e)
			want := map[byte]api.Errno{'+': api.OK, '-': api.ErrArg, 's': api.ErrState}[names[i]]
			if _, bad := p.copied().c.Do(e); bad != want {
				t.Errorf("%v: %d, not %d", e, bad, want)
			}
		}
	}
}

// TestPortsThatAreNotUp: of each kind, and which error comes first.
func TestPortsThatAreNotUp(t *testing.T) {
	p := amid(t)
	for port := -1; port <= api.MaxPorts; port++ {
		for _, e := range []api.CoreEvent{down(port), costs(port, 5), heard(port, net(11), 3), heard(port, net(13), 3), heard(port, net(10), 255), acked(port, net(11)), acked(port, net(13))} {
			_, bad := p.copied().c.Do(e)
			want := api.OK
			switch {
			case port < 0, port > 7:
				want = api.ErrArg
			case port > 1, e == acked(1, net(11)), e.Kind == api.CoreAcked && e.Prefix == net(13):
				want = api.ErrState
			}
			if bad != want {
				t.Errorf("%v: %d, not %d", e, bad, want)
			}
			e.Distance = 256
			if _, bad := p.c.Do(e); bad != api.ErrArg {
				t.Errorf("%v: %d", e, bad)
			}
		}
		want := api.OK
		if port < 0 || port > 7 {
			want = api.ErrArg
		}
		if _, bad := p.copied().c.Do(up(port, 3)); bad != want {
			t.Errorf("up(%d): %d", port, bad)
		}
	}
	p.looked(t)
	// A port that went down is not up.
	p.all(t, down(1))
	for _, e := range []api.CoreEvent{down(1), costs(1, 5), heard(1, net(11), 3), acked(1, net(11))} {
		if l, bad := p.c.Do(e); l != nil || bad != api.ErrState {
			t.Errorf("%v: %v, %d", e, l, bad)
		}
	}
	p.looked(t)
}

// TestAllCostsAndDistances: each that there may be, and the next ones.
func TestAllCostsAndDistances(t *testing.T) {
	p := begun(t, 3, 2, nil)
	for n := -2; n < 300; n++ {
		want := api.ErrArg
		if n >= 1 && n <= 50 {
			want = api.OK
		}
		for _, e := range []api.CoreEvent{up(0, n), up(5, n), costs(1, n)} {
			if _, bad := p.copied().c.Do(e); bad != want {
				t.Errorf("%v: %d", e, bad)
			}
		}
		want = api.ErrArg
		if n >= 0 && n <= 255 {
			want = api.OK
		}
		if _, bad := p.copied().c.Do(heard(1, net(11), n)); bad != want {
			t.Errorf("heard %d: %d", n, bad)
		}
		p.copied().do(t, heard(1, net(11), n))
	}
}

func TestPrefixesThatAreHeard(t *testing.T) {
	for q, may := range prefixes() {
		p := begun(t, 3, 1, nil)
		l, e := p.copied().c.Do(heard(0, q, 4))
		if may && (e != api.OK || !slices.Equal(l, []api.Told{{Port: 0, Update: api.Update{Prefix: q, Distance: 6}}})) {
			t.Errorf("%v: %v, %d", q, l, e)
		}
		if !may && (e != api.ErrArg || l != nil) {
			t.Errorf("%v: %v, %d", q, l, e)
		}
		p.do(t, heard(0, q, 4))
		p.do(t, acked(0, q))
		p.do(t, heard(0, q, 255))
		p.do(t, acked(0, q))
		if p.c.Routes() != nil {
			t.Error(q, show(p.c))
		}
	}
}

func TestDoOfNone(t *testing.T) {
	for _, c := range missing() {
		for _, e := range []api.CoreEvent{up(0, 1), down(0), costs(0, 1), heard(0, net(11), 4), acked(0, net(11)), {}, {Kind: 77, Port: -1}, up(9, 0)} {
			if l, bad := c.Do(e); l != nil || bad != api.ErrNil {
				t.Errorf("%v: %v, %d", e, l, bad)
			}
		}
		if c != nil && !none(c) {
			t.Error("changed")
		}
	}
}

// none: has nothing become of it?
func none(c *Core) bool { return c.Copy() == nil && c.Routes() == nil && !c.Passive() }

// P12.2

func TestLooksOfNone(t *testing.T) {
	for _, c := range missing() {
		if l := c.Routes(); len(l) != 0 {
			t.Error(l)
		}
		for p := range prefixes() {
			if e, is := c.Entry(p); is || e != (api.Entry{}) {
				t.Error(e, is)
			}
		}
		seq := c.All()
		if seq == nil {
			t.Fatal("nothing to range over")
		}
		for p, e := range seq {
			t.Error(p, e)
		}
		seq(nil)
		if c.Passive() {
			t.Error("passive")
		}
		for _, port := range append(great(), 0, 1, 7, 8) {
			if cost, is := c.Up(port); cost != 0 || is {
				t.Error(port, cost, is)
			}
		}
		if c.Copy() != nil {
			t.Error("copied")
		}
	}
}

// TestOneWithoutAnything is none of these: it is passive.
func TestOneWithoutAnything(t *testing.T) {
	p := both(t, 0)
	if !p.c.Passive() || p.c.Copy() == nil || len(p.c.Routes()) != 0 {
		t.Error("as if it were none")
	}
	p.run(t, step{up(0, 1), "", ""}, step{heard(0, net(11), 1), "", "11/8 waits 255,255,255 0:1"}, step{down(0), "", ""})
}

func TestUp(t *testing.T) {
	p := both(t, 3)
	for i, port := range []int{7, 0, 3} {
		p.all(t, up(port, 50-i))
		if cost, is := p.c.Up(port); cost != 50-i || !is {
			t.Error(port, cost, is)
		}
	}
	p.all(t, costs(3, 1), down(7), up(0, 9))
	for port, want := range map[int]int{-1: 0, 0: 9, 1: 0, 2: 0, 3: 1, 4: 0, 7: 0, 8: 0, math.MinInt: 0, math.MaxInt: 0, 1 << 32: 0, 256: 0} {
		if cost, is := p.c.Up(port); cost != want || is != (want > 0) {
			t.Error(port, cost, is)
		}
	}
}

func TestEntry(t *testing.T) {
	p := amid(t)
	said := func(at map[int]int) (l [8]int) {
		for port := range l {
			l[port] = 255
			if d, is := at[port]; is {
				l[port] = d
			}
		}
		return l
	}
	for q, want := range map[api.Prefix]api.Entry{
		net(10):       {Prefix: net(10), Own: true, Taken: true, Said: said(nil)},
		net(11):       {Prefix: net(11), Taken: true, Active: true, Distance: 9, Told: 9, Feasible: 6, Said: said(map[int]int{0: 7})},
		net(12):       {Prefix: net(12), Distance: 255, Told: 255, Feasible: 255, Said: said(map[int]int{1: 3})},
		net(13):       {},
		long(10, 9):   {},
		long(10, 7):   {},
		long(10, 4):   {},
		long(11, 264): {},
		long(0, 0):    {},
		long(10, -8):  {},
	} {
		if got, is := p.c.Entry(q); got != want || is != (want != api.Entry{}) {
			t.Errorf("Entry(%v): %v, %t", q, got, is)
		}
	}
	// What is told is the caller's.
	e, _ := p.c.Entry(net(11))
	e.Said[0], e.Told, e.Taken = 3, 3, false
	p.looked(t)
}

func TestSuccessors(t *testing.T) {
	// What was said, by ports, of a feasible distance of 20.
	for _, s := range []struct {
		said [3]int
		then string
	}{
		{[3]int{18, 255, 255}, "11/8 20,20,20 0:18 by 0:20"},
		{[3]int{18, 19, 255}, "11/8 20,20,20 0:18 1:19 by 0:20 1:21"},
		{[3]int{18, 20, 255}, "11/8 20,20,20 0:18 1:20 by 0:20"},
		{[3]int{18, 21, 19}, "11/8 20,20,20 0:18 1:21 2:19 by 0:20 2:21"},
		{[3]int{18, 18, 18}, "11/8 20,20,20 0:18 1:18 2:18 by 0:20 1:20 2:20"},
		{[3]int{18, 254, 20}, "11/8 20,20,20 0:18 1:254 2:20 by 0:20"},
	} {
		var l []api.CoreEvent
		for port, d := range s.said {
			l = append(l, heard(port, net(11), d))
		}
		p := begun(t, 3, 3, nil, l...)
		if got := show(p.c); got != s.then {
			t.Errorf("%v: %q, not %q", s.said, got, s.then)
		}
	}
}

// TestSuccessorsByFarPorts: a neighbour is nearer, but it is Infinite by it.
func TestSuccessorsByFarPorts(t *testing.T) {
	p := begun(t, 3, 2, nil, costs(0, 1), costs(1, 50), heard(0, net(11), 250), heard(1, net(11), 204))
	if got := show(p.c); got != "11/8 251,251,251 0:250 1:204 by 0:251 1:254" {
		t.Fatal(got)
	}
	p.run(t,
		step{heard(1, net(11), 205), "", "11/8 251,251,251 0:250 1:205 by 0:251"},
		step{heard(1, net(11), 206), "", "11/8 251,251,251 0:250 1:206 by 0:251"},
		step{costs(1, 48), "", "11/8 251,251,251 0:250 1:206 by 0:251 1:254"},
		step{costs(1, 49), "", "11/8 251,251,251 0:250 1:206 by 0:251"},
	)
}

// TestSuccessorsWhileActive: of a distance that rose, nobody who says as much as was feasible.
func TestSuccessorsWhileActive(t *testing.T) {
	p := begun(t, 3, 3, nil, heard(0, net(11), 5), heard(1, net(11), 6), heard(2, net(11), 7))
	p.run(t,
		step{heard(0, net(11), 20), "0:11/8=8 1:11/8=8 2:11/8=8", "11/8 active 8,8,7 0:20 1:6 2:7 by 1:8"},
		step{acked(0, net(11)), "", "11/8 active 8,8,7 0:20 1:6 2:7 by 1:8"},
		step{acked(1, net(11)), "", "11/8 active 8,8,7 0:20 1:6 2:7 by 1:8"},
		step{acked(2, net(11)), "", "11/8 8,8,8 0:20 1:6 2:7 by 1:8 2:9"},
		step{heard(1, net(11), 7), "0:11/8=9 1:11/8=9 2:11/8=9", "11/8 active 9,9,8 0:20 1:7 2:7 by 1:9 2:9"},
		step{down(1), "", "11/8 active 9,9,8 0:20 2:7 by 2:9"},
		step{down(2), "", "11/8 active 22,9,8 0:20"},
		step{acked(0, net(11)), "0:11/8=22", "11/8 active 22,22,9 0:20"},
	)
}

func TestAllAsItIsWhenItIsCalled(t *testing.T) {
	p := amid(t)
	want, _ := p.m.entries()
	seq := p.c.All()
	gone := func() []api.Entry {
		var l []api.Entry
		for _, e := range seq {
			l = append(l, e)
		}
		return l
	}
	for _, e := range []api.CoreEvent{heard(1, net(11), 1), costs(1, 7), heard(1, net(20), 3), acked(0, net(11)), down(0), down(1)} {
		p.all(t, e)
		if got := gone(); !slices.Equal(got, want) {
			t.Fatalf("%v, not %v", got, want)
		}
	}
	// While it is gone through, too.
	p = amid(t)
	i := 0
	for q, e := range p.c.All() {
		if q != want[i].Prefix || e != want[i] {
			t.Fatal(i, q, e)
		}
		if i == 0 {
			p.all(t, heard(0, net(14), 2), down(0), down(1))
		}
		i++
	}
	if i != len(want) {
		t.Error(i)
	}
	p.looked(t)
}

func TestAllBrokenOff(t *testing.T) {
	p := amid(t)
	want, _ := p.m.entries()
	seq := p.c.All()
	for most := range len(want) + 2 {
		var l []api.Entry
		for _, e := range seq {
			if len(l) == most {
				break
			}
			l = append(l, e)
		}
		if !slices.Equal(l, want[:min(most, len(want))]) {
			t.Fatal(most, l)
		}
	}
	// Two at once.
	next, stop := iter.Pull2(seq)
	next()
	for range seq {
		break
	}
	if _, e, is := next(); !is || e != want[1] {
		t.Error(e, is)
	}
	stop()
	seq(nil)
	p.looked(t)
}

func TestPassive(t *testing.T) {
	p := both(t, 3, net(10))
	for _, s := range []struct {
		e       api.CoreEvent
		passive bool
	}{
		{up(0, 1), false},
		{acked(0, net(10)), true},
		{heard(0, net(11), 1), false},
		{heard(0, net(9), 1), false},
		{acked(0, net(11)), false},
		{acked(0, net(9)), true},
		{heard(0, net(11), 2), false},
		{down(0), true},
	} {
		p.all(t, s.e)
		if p.c.Passive() != s.passive {
			t.Errorf("%v: not %t", s.e, s.passive)
		}
	}
}

func TestRoutesAreTheCallers(t *testing.T) {
	p := begun(t, 3, 3, []api.Prefix{net(10)}, heard(0, net(11), 5), heard(1, net(11), 5), heard(0, net(12), 5), heard(2, net(12), 5))
	one, other := p.c.Routes(), p.c.Routes()
	for i := range one {
		one[i].Next = append(one[i].Next, api.Next{Port: 77})
	}
	overwrite(one)
	if want := []api.Next{{Port: 0, Distance: 7}, {Port: 1, Distance: 7}}; !slices.Equal(other[1].Next, want) {
		t.Error(other)
	}
	if want := []api.Next{{Port: 0, Distance: 7}, {Port: 2, Distance: 7}}; !slices.Equal(other[2].Next, want) {
		t.Error(other)
	}
	overwrite(other)
	p.looked(t)
}

// P12.3

func TestCopy(t *testing.T) {
	for _, e := range []api.CoreEvent{up(0, 9), up(5, 4), down(0), down(1), costs(0, 7), heard(0, net(11), 1), heard(1, net(14), 255), heard(1, net(13), 2), heard(1, net(10), 9), heard(1, net(12), 255), acked(0, net(11))} {
		p := amid(t)
		q := p.copied()
		q.looked(t)
		p.all(t, e)
		q.looked(t)
		r := p.copied()
		q.all(t, e)
		q.all(t, up(1, 3))
		p.looked(t)
		r.looked(t)
		r.all(t, up(7, 7))
		r.calm(t)
		p.looked(t)
		q.looked(t)
	}
}

// TestCopyOfTheRoom: each has its own.
func TestCopyOfTheRoom(t *testing.T) {
	p := begun(t, 2, 1, nil, heard(0, net(11), 1))
	q := p.copied()
	p.all(t, heard(0, net(12), 1), heard(0, net(13), 1))
	q.all(t, heard(0, net(14), 1), heard(0, net(15), 1))
	p.all(t, heard(0, net(11), 255))
	q.all(t, down(0), up(1, 2), heard(1, net(16), 1), heard(1, net(17), 1), heard(1, net(18), 1))
	p.calm(t)
	q.calm(t)
	if got := show(p.c) + " | " + show(q.c); got != "12/8 3,3,3 0:1 by 0:3; 13/8 3,3,3 0:1 by 0:3 | 16/8 3,3,3 1:1 by 1:3; 17/8 3,3,3 1:1 by 1:3; 18/8 waits 255,255,255 1:1" {
		t.Error(got)
	}
}
