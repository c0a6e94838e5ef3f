package store

import (
	"bytes"
	"math"
	"slices"
	"testing"

	"guidepost/api"
)

// event is what happened to one byte: it was written, torn or spoilt.
type event struct {
	at     int
	value  byte
	unread bool
}

// model is a store worked out in another way than the program's: it keeps all that happened, and a byte is what happened to it last.
type model struct {
	size int
	log  []event
	// left is how many bytes may yet be written, by fuse; nil: as many as one likes.
	left *int
	fuse event
	down bool
}

func (m *model) last(at int) event {
	for _, e := range slices.Backward(m.log) {
		if e.at == at {
			return e
		}
	}
	return event{at: at}
}

// refused is what is wrong with n bytes from at on, if they need the power.
func (m *model) refused(at, n int) api.Errno {
	if at < 0 || at > m.size || n < 0 || n > m.size || at+n > m.size {
		return api.ErrArg
	}
	if m.down {
		return api.ErrState
	}
	return api.OK
}

func (m *model) write(at int, b []byte) api.Errno {
	if e := m.refused(at, len(b)); e != api.OK {
		return e
	}
	lives := len(b)
	if m.left != nil {
		lives = min(lives, *m.left)
		*m.left -= lives
	}
	for i := range lives {
		m.log = append(m.log, event{at: at + i, value: b[i]})
	}
	if lives == len(b) {
		return api.OK
	}
	m.log = append(m.log, event{at + lives, m.fuse.value, m.fuse.unread})
	m.down = true
	return api.ErrState
}

func (m *model) read(at, n int) ([]byte, api.Errno) {
	if e := m.refused(at, n); e != api.OK {
		return nil, e
	}
	var b []byte
	torn := false
	for i := range n {
		e := m.last(at + i)
		torn = torn || e.unread
		b = append(b, e.value)
	}
	if torn {
		return nil, api.ErrTorn
	}
	return b, api.OK
}

func (m *model) lay(n int, by byte, unread bool) {
	m.left, m.fuse = nil, event{value: by, unread: unread}
	if n >= 0 {
		m.left = &n
	}
}

func (m *model) raise() { m.down, m.left = false, nil }

func (m *model) spoil(at int, by byte, unread bool) api.Errno {
	if at < 0 || at >= m.size {
		return api.ErrArg
	}
	m.log = append(m.log, event{at, by, unread})
	return api.OK
}

func (m *model) copied() *model {
	c := *m
	c.log = slices.Clone(m.log)
	if m.left != nil {
		n := *m.left
		c.left = &n
	}
	return &c
}

func (m *model) same(o *model) bool {
	if m.size != o.size {
		return false
	}
	for i := range m.size {
		if m.last(i) != o.last(i) {
			return false
		}
	}
	return true
}

// made is a store that may be made.
func made(t *testing.T, n int) *Store {
	t.Helper()
	s, e := New(n)
	if s == nil || e != api.OK {
		t.Fatalf("New(%d): %v, %d", n, s, e)
	}
	return s
}

// filled is a store of n bytes: 1, 2, 3 and on.
func filled(t *testing.T, n int) *Store {
	t.Helper()
	s := made(t, n)
	if e := s.Write(0, count(1, n)); e != api.OK {
		t.Fatalf("Write of %d bytes: %d", n, e)
	}
	return s
}

// count are n bytes, each one more than the one ahead of it.
func count(first, n int) []byte {
	b := make([]byte, n)
	for i := range b {
		b[i] = byte(first + i)
	}
	return b
}

// held fails if s does not hold those bytes, or others are unreadable than those named; it leaves s as it is.
func held(t *testing.T, s *Store, want []byte, unread ...int) {
	t.Helper()
	c := s.Copy()
	c.Raise()
	if c.Len() != len(want) {
		t.Fatalf("%d bytes, not %d", c.Len(), len(want))
	}
	for i := range want {
		b, e := c.Read(i, 1)
		switch {
		case slices.Contains(unread, i):
			if b != nil || e != api.ErrTorn {
				t.Fatalf("byte %d is read (%v, %d), though it is unreadable", i, b, e)
			}
		case e != api.OK || !bytes.Equal(b, want[i:i+1]):
			t.Fatalf("byte %d: %v, %d, not %d", i, b, e, want[i])
		}
	}
	// Of unreadable bytes the values are told by nothing but Same.
	o := made(t, len(want))
	for i, x := range want {
		o.Spoil(i, x, slices.Contains(unread, i))
	}
	if !s.Same(o) || !o.Same(s) {
		t.Fatalf("not the same as %v, unreadable at %v", want, unread)
	}
}

// burnt fails if the fuse of s has not just that many bytes left (below 0: it has none); it leaves s as it is.
func burnt(t *testing.T, s *Store, left int) {
	t.Helper()
	if s.Dead() {
		t.Fatal("the power is gone")
	}
	c := s.Copy()
	if left < 0 {
		for range 3 {
			if e := c.Write(0, make([]byte, c.Len())); e != api.OK {
				t.Fatalf("there is a fuse: %d", e)
			}
		}
		return
	}
	for i := range left {
		if e := c.Write(0, []byte{1}); e != api.OK || c.Dead() {
			t.Fatalf("the fuse ends at %d, not at %d", i, left)
		}
	}
	if e := c.Write(0, []byte{1}); e != api.ErrState || !c.Dead() {
		t.Fatalf("the fuse does not end at %d: %d", left, e)
	}
}

// missing are stores that are none: each call makes them anew.
func missing() []*Store { return []*Store{nil, {}, new(Store)} }

// far are numbers beyond all bounds.
func far() []int {
	return []int{math.MinInt, math.MinInt + 1, math.MinInt32, -4097, -4096, -2, -1, 4097, 8192, math.MaxInt32, math.MaxInt - 4096, math.MaxInt - 1, math.MaxInt}
}

// P7.1

func TestNew(t *testing.T) {
	for _, n := range []int{1, 2, 3, 31, 32, 33, 255, 256, 257, 4095, api.MaxStore} {
		s := made(t, n)
		if s.Len() != n || s.Dead() {
			t.Errorf("New(%d): %d bytes, dead: %t", n, s.Len(), s.Dead())
		}
		b, e := s.Read(0, n)
		if e != api.OK || !bytes.Equal(b, make([]byte, n)) {
			t.Errorf("New(%d): %v, %d", n, b, e)
		}
		if n < 100 {
			held(t, s, make([]byte, n))
		}
		burnt(t, s, -1)
	}
	for _, n := range append(far(), 0) {
		if s, e := New(n); s != nil || e != api.ErrArg {
			t.Errorf("New(%d): %v, %d", n, s, e)
		}
	}
	if api.MaxStore != 4096 {
		t.Error("MaxStore")
	}
}

func TestNewEachApart(t *testing.T) {
	a, b := made(t, 3), made(t, 3)
	a.Write(0, []byte{1, 2, 3})
	a.Fuse(0, 9, true)
	held(t, b, []byte{0, 0, 0})
	burnt(t, b, -1)
}

func TestLen(t *testing.T) {
	for _, s := range missing() {
		if s.Len() != 0 {
			t.Error(s.Len())
		}
	}
	s := made(t, 5)
	steps := []func(){
		func() { s.Write(0, []byte{1, 2, 3, 4, 5}) },
		func() { s.Write(5, nil) },
		func() { s.Write(3, []byte{1, 2, 3}) },
		func() { s.Spoil(4, 1, true) },
		func() { s.Spoil(5, 1, true) },
		func() { s.Fuse(1, 1, true) },
		func() { s.Write(0, []byte{1, 2}) },
		func() { s.Read(0, 5) },
		func() { s.Raise() },
		func() { s.Read(2, 4) },
		func() { s = s.Copy() },
	}
	for i, step := range steps {
		if step(); s.Len() != 5 {
			t.Errorf("step %d: %d", i, s.Len())
		}
	}
}

// P7.2

func TestWrite(t *testing.T) {
	s := made(t, 6)
	if e := s.Write(1, []byte{1, 2, 3}); e != api.OK {
		t.Error(e)
	}
	held(t, s, []byte{0, 1, 2, 3, 0, 0})
	if e := s.Write(3, []byte{7, 8, 9}); e != api.OK {
		t.Error(e)
	}
	held(t, s, []byte{0, 1, 2, 7, 8, 9})
	if e := s.Write(0, []byte{255, 0}); e != api.OK {
		t.Error(e)
	}
	held(t, s, []byte{255, 0, 2, 7, 8, 9})
}

func TestWriteEachPlace(t *testing.T) {
	const size = 5
	for at := -3; at <= size+3; at++ {
		for n := 0; n <= size+3; n++ {
			s, want := filled(t, size), count(1, size)
			b := count(100, n)
			e := s.Write(at, b)
			if at >= 0 && at <= size && at+n <= size {
				copy(want[at:], b)
				if e != api.OK {
					t.Errorf("%d bytes at %d: %d", n, at, e)
				}
			} else if e != api.ErrArg {
				t.Errorf("%d bytes at %d: %d", n, at, e)
			}
			held(t, s, want)
			burnt(t, s, -1)
		}
	}
}

func TestReadEachPlace(t *testing.T) {
	const size = 5
	for at := -3; at <= size+3; at++ {
		for n := -3; n <= size+3; n++ {
			s := filled(t, size)
			b, e := s.Read(at, n)
			if at >= 0 && n >= 0 && at <= size && at+n <= size {
				if e != api.OK || !bytes.Equal(b, count(1+at, n)) {
					t.Errorf("Read(%d, %d): %v, %d", at, n, b, e)
				}
			} else if b != nil || e != api.ErrArg {
				t.Errorf("Read(%d, %d): %v, %d", at, n, b, e)
			}
			held(t, s, count(1, size))
		}
	}
}

func TestOfNoBytes(t *testing.T) {
	for _, none := range [][]byte{nil, {}} {
		s := filled(t, 4)
		s.Fuse(2, 9, true)
		for at, want := range map[int]api.Errno{0: api.OK, 1: api.OK, 3: api.OK, 4: api.OK, 5: api.ErrArg, -1: api.ErrArg} {
			if e := s.Write(at, none); e != want {
				t.Errorf("Write at %d: %d", at, e)
			}
			if b, e := s.Read(at, 0); len(b) != 0 || e != want {
				t.Errorf("Read(%d, 0): %v, %d", at, b, e)
			}
		}
		held(t, s, []byte{1, 2, 3, 4})
		burnt(t, s, 2)
		// A byte that would be written is ahead of which the power goes: of none it does not.
		s.Fuse(0, 9, true)
		if e := s.Write(2, none); e != api.OK || s.Dead() {
			t.Error(e)
		}
		held(t, s, []byte{1, 2, 3, 4})
		burnt(t, s, 0)
		// No byte is unreadable among none.
		s.Spoil(1, 9, true)
		for at := 0; at <= 4; at++ {
			if b, e := s.Read(at, 0); len(b) != 0 || e != api.OK {
				t.Errorf("Read(%d, 0): %v, %d", at, b, e)
			}
		}
		s.Write(0, []byte{1})
		if e := s.Write(0, none); e != api.ErrState {
			t.Error(e)
		}
		if b, e := s.Read(0, 0); b != nil || e != api.ErrState {
			t.Error(b, e)
		}
	}
}

func TestGreatestStore(t *testing.T) {
	s := made(t, api.MaxStore)
	all := make([]byte, api.MaxStore)
	for i := range all {
		all[i] = byte(i*7 + i>>8)
	}
	if e := s.Write(0, all); e != api.OK {
		t.Fatal(e)
	}
	if b, e := s.Read(0, api.MaxStore); e != api.OK || !bytes.Equal(b, all) {
		t.Error(e)
	}
	if b, e := s.Read(4095, 1); e != api.OK || !bytes.Equal(b, all[4095:]) {
		t.Error(b, e)
	}
	if b, e := s.Read(1, 4095); e != api.OK || !bytes.Equal(b, all[1:]) {
		t.Error(e)
	}
	if b, e := s.Read(4096, 0); len(b) != 0 || e != api.OK {
		t.Error(b, e)
	}
	for _, x := range [][2]int{{0, 4097}, {1, 4096}, {4096, 1}, {4097, 0}} {
		if b, e := s.Read(x[0], x[1]); b != nil || e != api.ErrArg {
			t.Error(x, e)
		}
		if e := s.Write(x[0], make([]byte, x[1])); e != api.ErrArg {
			t.Error(x, e)
		}
	}
	if b, e := s.Read(0, api.MaxStore); e != api.OK || !bytes.Equal(b, all) {
		t.Error(e)
	}
}

func TestFarPlaces(t *testing.T) {
	for _, size := range []int{1, 4, api.MaxStore} {
		s := made(t, size)
		near := []int{0, 1, 2, size - 1, size}
		for _, x := range far() {
			for _, y := range append(far(), near...) {
				if b, e := s.Read(x, y); b != nil || e != api.ErrArg {
					t.Errorf("of %d: Read(%d, %d): %d", size, x, y, e)
				}
				if b, e := s.Read(y, x); b != nil || e != api.ErrArg {
					t.Errorf("of %d: Read(%d, %d): %d", size, y, x, e)
				}
			}
			for n := range 3 {
				if e := s.Write(x, count(1, n)); e != api.ErrArg {
					t.Errorf("of %d: %d bytes at %d: %d", size, n, x, e)
				}
			}
			if e := s.Spoil(x, 1, true); e != api.ErrArg {
				t.Errorf("of %d: Spoil(%d): %d", size, x, e)
			}
		}
		if b, e := s.Read(0, size); e != api.OK || !bytes.Equal(b, make([]byte, size)) {
			t.Errorf("of %d: changed: %d", size, e)
		}
	}
}

func TestWriteWithFuse(t *testing.T) {
	for fuse := -1; fuse <= 7; fuse++ {
		for n := 0; n <= 5; n++ {
			for at := 0; at+n <= 6; at++ {
				for _, unread := range []bool{false, true} {
					s, want := filled(t, 6), count(1, 6)
					s.Fuse(fuse, 77, unread)
					b := count(100, n)
					e := s.Write(at, b)
					if fuse < 0 || fuse >= n {
						copy(want[at:], b)
						if e != api.OK || s.Dead() {
							t.Fatalf("fuse %d, %d bytes: %d, dead: %t", fuse, n, e, s.Dead())
						}
						held(t, s, want)
						burnt(t, s, max(fuse-n, min(fuse, -1)))
						continue
					}
					if e != api.ErrState || !s.Dead() {
						t.Fatalf("fuse %d, %d bytes: %d, dead: %t", fuse, n, e, s.Dead())
					}
					copy(want[at:], b[:fuse])
					want[at+fuse] = 77
					if unread {
						held(t, s, want, at+fuse)
					} else {
						held(t, s, want)
					}
				}
			}
		}
	}
}

func TestTornByte(t *testing.T) {
	// By may be what was there, what would have been written, or neither.
	for _, by := range []byte{0, 1, 2, 4, 5, 127, 128, 255} {
		for _, unread := range []bool{false, true} {
			s := filled(t, 3)
			s.Fuse(1, by, unread)
			if e := s.Write(0, []byte{4, 5, 6}); e != api.ErrState || !s.Dead() {
				t.Fatal(e)
			}
			if b, e := s.Read(0, 1); b != nil || e != api.ErrState {
				t.Error(b, e)
			}
			s.Raise()
			b, e := s.Read(0, 3)
			if unread {
				if b != nil || e != api.ErrTorn {
					t.Error(b, e)
				}
				held(t, s, []byte{4, by, 3}, 1)
			} else {
				if e != api.OK || !bytes.Equal(b, []byte{4, by, 3}) {
					t.Error(b, e)
				}
				held(t, s, []byte{4, by, 3})
			}
			burnt(t, s, -1)
		}
	}
}

func TestFuseOverSeveralWrites(t *testing.T) {
	s := made(t, 8)
	s.Fuse(5, 9, false)
	for i, w := range []struct {
		at, n int
		want  api.Errno
	}{{0, 2, api.OK}, {4, 0, api.OK}, {7, 2, api.ErrArg}, {2, 2, api.OK}, {-1, 1, api.ErrArg}, {6, 2, api.ErrState}, {0, 1, api.ErrState}, {0, 0, api.ErrState}} {
		if e := s.Write(w.at, count(10*(i+1), w.n)); e != w.want {
			t.Errorf("write %d: %d", i, e)
		}
	}
	held(t, s, []byte{10, 11, 40, 41, 0, 0, 60, 9})
	s.Raise()
	if e := s.Write(0, count(1, 8)); e != api.OK {
		t.Error(e)
	}
	held(t, s, count(1, 8))
}

// A fuse counts bytes, not places: one that is written again counts again.
func TestFuseCountsEachByte(t *testing.T) {
	s := made(t, 3)
	s.Fuse(4, 9, true)
	for i := range 4 {
		if e := s.Write(1, []byte{byte(i)}); e != api.OK {
			t.Fatal(i, e)
		}
	}
	if e := s.Write(2, []byte{1}); e != api.ErrState {
		t.Error(e)
	}
	held(t, s, []byte{0, 3, 9}, 2)
}

func TestReadUnreadable(t *testing.T) {
	const size = 6
	for bad := range size {
		s := filled(t, size)
		s.Spoil(bad, byte(bad+1), true)
		for at := 0; at <= size; at++ {
			for n := 0; at+n <= size; n++ {
				b, e := s.Read(at, n)
				if at <= bad && bad < at+n {
					if b != nil || e != api.ErrTorn {
						t.Errorf("%d unreadable: Read(%d, %d): %v, %d", bad, at, n, b, e)
					}
				} else if e != api.OK || !bytes.Equal(b, count(1+at, n)) {
					t.Errorf("%d unreadable: Read(%d, %d): %v, %d", bad, at, n, b, e)
				}
			}
		}
		// What is read does not mend it.
		held(t, s, count(1, size), bad)
	}
}

func TestWriteMakesReadable(t *testing.T) {
	for _, value := range []byte{0, 2, 9} {
		s := filled(t, 4)
		s.Spoil(1, 9, true)
		s.Spoil(2, 9, true)
		if e := s.Write(1, []byte{value}); e != api.OK {
			t.Error(e)
		}
		held(t, s, []byte{1, value, 9, 4}, 2)
		s.Fuse(1, 8, true)
		s.Write(2, []byte{value, value})
		held(t, s, []byte{1, value, value, 8}, 3)
		s.Raise()
		if e := s.Write(0, []byte{5, 6, 7, 8}); e != api.OK {
			t.Error(e)
		}
		held(t, s, []byte{5, 6, 7, 8})
	}
}

// Torn as such an unreadable byte is readable again, if its fuse says so; and the other way about.
func TestTornAnew(t *testing.T) {
	s := filled(t, 3)
	s.Spoil(1, 9, true)
	s.Fuse(0, 7, false)
	s.Write(1, []byte{5, 6})
	held(t, s, []byte{1, 7, 3})
	s.Raise()
	s.Fuse(0, 8, true)
	s.Write(1, []byte{5, 6})
	held(t, s, []byte{1, 8, 3}, 1)
}

func TestWhichErrorIsFirst(t *testing.T) {
	for _, s := range missing() {
		for _, x := range append(far(), 0, 1) {
			if e := s.Write(x, nil); e != api.ErrNil {
				t.Error(e)
			}
			if e := s.Write(x, []byte{1}); e != api.ErrNil {
				t.Error(e)
			}
			if b, e := s.Read(x, x); b != nil || e != api.ErrNil {
				t.Error(b, e)
			}
			if e := s.Spoil(x, 1, true); e != api.ErrNil {
				t.Error(e)
			}
		}
	}
	dead := filled(t, 3)
	dead.Spoil(0, 9, true)
	dead.Fuse(0, 9, true)
	dead.Write(2, []byte{1})
	for _, c := range []struct {
		got, want api.Errno
	}{
		{dead.Write(3, []byte{1}), api.ErrArg},
		{dead.Write(-1, nil), api.ErrArg},
		{dead.Write(4, nil), api.ErrArg},
		{dead.Write(1, []byte{1}), api.ErrState},
		{second(dead.Read(0, 4)), api.ErrArg},
		{second(dead.Read(0, -1)), api.ErrArg},
		{second(dead.Read(-1, 1)), api.ErrArg},
		{second(dead.Read(4, 0)), api.ErrArg},
		{second(dead.Read(0, 3)), api.ErrState},
		{second(dead.Read(1, 1)), api.ErrState},
		{dead.Spoil(3, 1, true), api.ErrArg},
	} {
		if c.got != c.want {
			t.Errorf("%d, not %d", c.got, c.want)
		}
	}
	dead.Raise()
	if e := second(dead.Read(0, 4)); e != api.ErrArg {
		t.Error(e)
	}
	if e := second(dead.Read(0, 3)); e != api.ErrTorn {
		t.Error(e)
	}
	// A write that is refused does not come so far as its fuse.
	dead.Fuse(0, 1, false)
	if e := dead.Write(2, []byte{1, 2}); e != api.ErrArg || dead.Dead() {
		t.Error(e)
	}
	held(t, dead, []byte{9, 2, 9}, 0, 2)
}

func second(_ []byte, e api.Errno) api.Errno { return e }

func TestRefusedChangesNothing(t *testing.T) {
	s := filled(t, 4)
	s.Fuse(3, 9, true)
	refused := func() {
		t.Helper()
		before := s.Copy()
		s.Write(3, []byte{7, 7})
		s.Write(-1, []byte{7, 7, 7, 7, 7, 7})
		s.Write(5, nil)
		s.Write(math.MaxInt, []byte{7})
		s.Read(0, 5)
		s.Read(-1, 2)
		s.Spoil(-1, 7, true)
		s.Spoil(4, 7, true)
		if !s.Same(before) || s.Dead() != before.Dead() {
			t.Error("changed")
		}
	}
	refused()
	held(t, s, []byte{1, 2, 3, 4})
	burnt(t, s, 3)
	s.Write(0, []byte{5, 6, 7, 8})
	refused()
	s.Write(0, []byte{1, 2, 3, 4})
	s.Read(0, 4)
	held(t, s, []byte{5, 6, 7, 9}, 3)
}

func TestSharesNoMemory(t *testing.T) {
	in := []byte{1, 2, 3, 4, 5, 6}
	s := made(t, 4)
	for _, fuse := range []int{-1, 2} {
		s.Raise()
		s.Fuse(fuse, 9, true)
		s.Write(0, in[1:5:5])
		if !bytes.Equal(in, []byte{1, 2, 3, 4, 5, 6}) {
			t.Error("what is handed in is changed")
		}
	}
	s.Raise()
	s.Write(0, in[1:5])
	for i := range in {
		in[i] = 99
	}
	held(t, s, []byte{2, 3, 4, 5})
	a, _ := s.Read(0, 4)
	b, _ := s.Read(0, 4)
	for i := range a {
		a[i] = 88
	}
	a = append(a[:2], 77, 77, 77, 77)
	if !bytes.Equal(b, []byte{2, 3, 4, 5}) {
		t.Error("two answers share memory")
	}
	held(t, s, []byte{2, 3, 4, 5})
	s.Write(0, []byte{6, 6, 6, 6})
	if !bytes.Equal(b, []byte{2, 3, 4, 5}) || a[0] != 88 {
		t.Error("an answer changes with the store")
	}
	// What is read may be written where it came from, and beside it.
	s.Write(0, []byte{1, 2, 3, 4})
	c, _ := s.Read(0, 3)
	s.Write(1, c)
	held(t, s, []byte{1, 1, 2, 3})
}

// P7.3

func TestFuseBelowZero(t *testing.T) {
	for _, n := range []int{-1, -2, -4097, math.MinInt32, math.MinInt + 1, math.MinInt} {
		s := made(t, 2)
		s.Fuse(n, 9, true)
		burnt(t, s, -1)
		// It takes away the one that was.
		s.Fuse(0, 9, true)
		s.Fuse(n, 9, true)
		burnt(t, s, -1)
		held(t, s, []byte{0, 0})
	}
}

func TestFuseFarOff(t *testing.T) {
	for _, n := range []int{4097, math.MaxInt32, math.MaxInt - 1, math.MaxInt} {
		s := made(t, api.MaxStore)
		s.Fuse(n, 9, true)
		if e := s.Write(0, make([]byte, api.MaxStore)); e != api.OK || s.Dead() {
			t.Error(n, e)
		}
	}
}

func TestFuseInPlaceOfAnother(t *testing.T) {
	s := filled(t, 4)
	s.Fuse(0, 8, true)
	s.Fuse(2, 9, false)
	burnt(t, s, 2)
	s.Write(0, []byte{5})
	s.Fuse(2, 7, true)
	burnt(t, s, 2)
	s.Fuse(1, 6, false)
	if e := s.Write(1, []byte{6, 7, 8}); e != api.ErrState {
		t.Error(e)
	}
	held(t, s, []byte{5, 6, 6, 4})
}

// Neither what is laid nor what is taken away changes a byte, or the power.
func TestFuseAlone(t *testing.T) {
	s := filled(t, 2)
	s.Spoil(1, 9, true)
	for _, n := range []int{-1, 0, 1, 2} {
		s.Fuse(n, 8, false)
		if s.Dead() {
			t.Error("dead")
		}
		held(t, s, []byte{1, 9}, 1)
	}
}

func TestFuseWithoutPower(t *testing.T) {
	for _, n := range []int{-1, 0, 1, 5} {
		s := filled(t, 3)
		s.Fuse(1, 9, false)
		s.Write(0, []byte{4, 5, 6})
		s.Fuse(n, 8, true)
		if !s.Dead() {
			t.Error("a fuse brings the power")
		}
		if e := s.Write(0, []byte{1}); e != api.ErrState {
			t.Error(e)
		}
		if b, e := s.Read(0, 1); b != nil || e != api.ErrState {
			t.Error(b, e)
		}
		held(t, s, []byte{4, 9, 3})
		// Raising takes it away.
		s.Raise()
		burnt(t, s, -1)
		held(t, s, []byte{4, 9, 3})
	}
}

func TestDead(t *testing.T) {
	s := filled(t, 3)
	s.Fuse(3, 9, true)
	for i := range 3 {
		if s.Write(i, []byte{7}); s.Dead() {
			t.Errorf("dead behind %d", i)
		}
	}
	// Only the next byte is it that lacks the power.
	if s.Read(0, 3); s.Dead() {
		t.Error("a read needs no fuse")
	}
	if s.Write(0, []byte{1}); !s.Dead() || !s.Dead() {
		t.Error("not dead")
	}
	s.Read(0, 1)
	s.Write(0, nil)
	s.Spoil(0, 1, false)
	if !s.Dead() {
		t.Error("not dead")
	}
	s.Raise()
	if s.Dead() {
		t.Error("dead")
	}
	for _, s := range missing() {
		if s.Dead() {
			t.Error("dead")
		}
	}
}

func TestRaise(t *testing.T) {
	s := filled(t, 3)
	s.Spoil(0, 5, true)
	// With the power on it takes the fuse away.
	s.Fuse(1, 9, true)
	s.Raise()
	burnt(t, s, -1)
	held(t, s, []byte{5, 2, 3}, 0)
	s.Raise()
	burnt(t, s, -1)
	// A fuse that is laid behind it counts from there on.
	s.Fuse(0, 9, true)
	s.Write(2, []byte{1})
	s.Raise()
	s.Fuse(1, 8, false)
	burnt(t, s, 1)
	s.Write(1, []byte{6, 7})
	held(t, s, []byte{5, 6, 8}, 0)
	s.Raise()
	burnt(t, s, -1)
}

func TestSpoil(t *testing.T) {
	for at := range 4 {
		for _, unread := range []bool{false, true} {
			for _, by := range []byte{0, byte(at + 1), 200, 255} {
				s, want := filled(t, 4), count(1, 4)
				if e := s.Spoil(at, by, unread); e != api.OK {
					t.Error(e)
				}
				want[at] = by
				if unread {
					held(t, s, want, at)
				} else {
					held(t, s, want)
				}
				burnt(t, s, -1)
			}
		}
	}
	s := filled(t, 4)
	for _, at := range []int{-1, 4, 5, math.MaxInt, math.MinInt} {
		if e := s.Spoil(at, 9, true); e != api.ErrArg {
			t.Error(at, e)
		}
	}
	held(t, s, count(1, 4))
}

// A byte that is spoilt is not written: no fuse counts it, and it needs no power.
func TestSpoilIsNoWrite(t *testing.T) {
	s := filled(t, 3)
	s.Fuse(1, 9, false)
	for range 3 {
		s.Spoil(0, 7, true)
	}
	burnt(t, s, 1)
	s.Fuse(0, 9, false)
	if e := s.Spoil(0, 8, false); e != api.OK || s.Dead() {
		t.Error(e)
	}
	burnt(t, s, 0)
	s.Write(2, []byte{1})
	for at, unread := range []bool{true, false, true} {
		if e := s.Spoil(at, 6, unread); e != api.OK || !s.Dead() {
			t.Error(e)
		}
	}
	held(t, s, []byte{6, 6, 6}, 0, 2)
	s.Raise()
	held(t, s, []byte{6, 6, 6}, 0, 2)
	// It makes readable what was not, too.
	s.Spoil(0, 6, false)
	held(t, s, []byte{6, 6, 6}, 2)
}

func TestMissing(t *testing.T) {
	for _, s := range missing() {
		for range 2 {
			if e := s.Write(0, []byte{1}); e != api.ErrNil {
				t.Error(e)
			}
			if e := s.Write(0, nil); e != api.ErrNil {
				t.Error(e)
			}
			if b, e := s.Read(0, 0); b != nil || e != api.ErrNil {
				t.Error(b, e)
			}
			if e := s.Spoil(0, 1, false); e != api.ErrNil {
				t.Error(e)
			}
			if s.Len() != 0 || s.Dead() || s.Copy() != nil {
				t.Error("not as a nil one")
			}
			for _, o := range missing() {
				if !s.Same(o) || !o.Same(s) {
					t.Error("two nil ones don't differ")
				}
			}
			// None of these makes one of it.
			s.Fuse(0, 1, true)
			s.Fuse(3, 1, false)
			s.Raise()
		}
		one := made(t, 1)
		if s.Same(one) || one.Same(s) {
			t.Error("the same as one that is there")
		}
	}
}

// P7.4

func TestCopy(t *testing.T) {
	s := filled(t, 4)
	s.Spoil(2, 9, true)
	c := s.Copy()
	if c == s || !c.Same(s) || c.Len() != 4 || c.Dead() {
		t.Error("no copy")
	}
	held(t, c, []byte{1, 2, 9, 4}, 2)
	burnt(t, c, -1)
	// Each goes on apart.
	s.Write(0, []byte{50})
	s.Spoil(3, 60, true)
	held(t, c, []byte{1, 2, 9, 4}, 2)
	c.Write(1, []byte{70, 80})
	c.Spoil(0, 90, true)
	held(t, s, []byte{50, 2, 9, 60}, 2, 3)
	held(t, c, []byte{90, 70, 80, 4}, 0)
}

func TestCopyOfFuse(t *testing.T) {
	s := filled(t, 4)
	s.Fuse(3, 9, true)
	s.Write(0, []byte{5})
	c := s.Copy()
	burnt(t, c, 2)
	burnt(t, s, 2)
	// What one burns is not burnt of the other.
	c.Write(0, []byte{6})
	burnt(t, c, 1)
	burnt(t, s, 2)
	s.Write(0, []byte{7, 8})
	burnt(t, s, 0)
	burnt(t, c, 1)
	// Nor is what one lays.
	s.Fuse(5, 8, false)
	burnt(t, s, 5)
	burnt(t, c, 1)
	c.Raise()
	burnt(t, c, -1)
	burnt(t, s, 5)
	// Nor is what its torn byte will be.
	a, b := filled(t, 2), (*Store)(nil)
	a.Fuse(0, 9, true)
	b = a.Copy()
	a.Fuse(0, 8, false)
	a.Write(1, []byte{1})
	b.Write(1, []byte{1})
	held(t, a, []byte{1, 8})
	held(t, b, []byte{1, 9}, 1)
}

func TestCopyWithoutPower(t *testing.T) {
	s := filled(t, 3)
	s.Fuse(1, 9, true)
	c := s.Copy()
	s.Write(0, []byte{4, 5})
	if !s.Dead() || c.Dead() {
		t.Error("the power is not apart")
	}
	d := s.Copy()
	if !d.Dead() || d.Write(0, []byte{1}) != api.ErrState {
		t.Error("the copy of one without power has it")
	}
	d.Raise()
	if d.Dead() || !s.Dead() {
		t.Error("raised, too")
	}
	held(t, c, []byte{1, 2, 3})
	held(t, d, []byte{4, 9, 3}, 1)
	e := s.Copy()
	s.Raise()
	if !e.Dead() || s.Dead() {
		t.Error("raised, too")
	}
}

func TestSame(t *testing.T) {
	for _, n := range []int{1, 2, 5, api.MaxStore} {
		a, b := made(t, n), made(t, n)
		if !a.Same(a) || !a.Same(b) || !b.Same(a) {
			t.Errorf("%d noughts", n)
		}
		for _, at := range []int{0, n / 2, n - 1} {
			for _, d := range []event{{at, 1, false}, {at, 128, false}, {at, 0, true}, {at, 1, true}} {
				b.Spoil(d.at, d.value, d.unread)
				if a.Same(b) || b.Same(a) {
					t.Errorf("of %d, but for %v", n, d)
				}
				a.Spoil(d.at, d.value, d.unread)
				if !a.Same(b) || !b.Same(a) {
					t.Errorf("of %d, both with %v", n, d)
				}
			}
		}
	}
}

func TestSameOfUnlikeSizes(t *testing.T) {
	for _, n := range []int{1, 2, 255, 4095} {
		a, b := made(t, n), made(t, n+1)
		if a.Same(b) || b.Same(a) {
			t.Error(n)
		}
	}
}

// The fuse and the power are neither a byte nor whether it is readable.
func TestSameButForPower(t *testing.T) {
	a, b := filled(t, 3), filled(t, 3)
	b.Fuse(2, 9, true)
	if !a.Same(b) || !b.Same(a) {
		t.Error("a fuse")
	}
	a.Fuse(1, 8, false)
	if !a.Same(b) || !b.Same(a) {
		t.Error("another fuse")
	}
	b.Fuse(0, 3, false)
	b.Write(2, []byte{7})
	if !b.Dead() || !a.Same(b) || !b.Same(a) {
		t.Error("the power")
	}
	a.Fuse(0, 1, false)
	a.Write(0, []byte{7})
	if !a.Dead() || !a.Same(b) || !b.Same(a) {
		t.Error("both without power")
	}
}

// By which way a byte came to be what it is makes no difference.
func TestSameByWhateverWay(t *testing.T) {
	written, spoilt, torn := made(t, 2), made(t, 2), made(t, 2)
	written.Write(1, []byte{9})
	spoilt.Spoil(1, 9, false)
	torn.Fuse(0, 9, false)
	torn.Write(1, []byte{1})
	if !written.Same(spoilt) || !spoilt.Same(torn) || !torn.Same(written) {
		t.Error("9")
	}
	torn.Raise()
	torn.Fuse(0, 8, true)
	torn.Write(1, []byte{1})
	spoilt.Spoil(1, 8, true)
	if !spoilt.Same(torn) || !torn.Same(spoilt) || written.Same(torn) {
		t.Error("8, unreadable")
	}
}

func TestSameLeavesBoth(t *testing.T) {
	a, b := filled(t, 3), filled(t, 3)
	a.Fuse(1, 9, true)
	b.Spoil(0, 9, true)
	a.Same(b)
	b.Same(a)
	a.Copy()
	held(t, a, []byte{1, 2, 3})
	burnt(t, a, 1)
	held(t, b, []byte{9, 2, 3}, 0)
	burnt(t, b, -1)
}

// P7.5

func TestExample(t *testing.T) {
	s := made(t, 3)
	if e := s.Write(0, []byte{1, 2, 3}); e != api.OK {
		t.Error(e)
	}
	s.Fuse(1, 9, false)
	if e := s.Write(0, []byte{4, 5, 6}); e != api.ErrState {
		t.Error(e)
	}
	s.Raise()
	if b, e := s.Read(0, 3); e != api.OK || !bytes.Equal(b, []byte{4, 9, 3}) {
		t.Error(b, e)
	}
}

// At most one byte is torn by one loss of power; those behind it, and ahead of the write, are what they were.
func TestOneLossTearsOneByte(t *testing.T) {
	const size = 9
	for fuse := range size {
		for at := range size {
			for n := 1; at+n <= size; n++ {
				s := filled(t, size)
				s.Spoil(size-1, 50, true)
				before := s.Copy()
				s.Fuse(fuse, 77, true)
				dead := s.Write(at, count(100, n)) == api.ErrState
				if dead != (fuse < n) || dead != s.Dead() {
					t.Fatalf("fuse %d, %d at %d", fuse, n, at)
				}
				// What is not there to be written does not tear another byte.
				for i := 0; dead && i < size; i++ {
					s.Write(i, []byte{200})
				}
				s.Raise()
				for i := range size {
					now, e := s.Read(i, 1)
					was, f := before.Read(i, 1)
					switch {
					case i < at, i >= at+n, i > at+fuse:
						if e != f || !bytes.Equal(now, was) {
							t.Fatalf("fuse %d, %d at %d: byte %d is not what it was", fuse, n, at, i)
						}
					case i == at+fuse:
						if e != api.ErrTorn {
							t.Fatalf("fuse %d, %d at %d: byte %d is not torn", fuse, n, at, i)
						}
					case e != api.OK || now[0] != byte(100+i-at):
						t.Fatalf("fuse %d, %d at %d: byte %d was not written", fuse, n, at, i)
					}
				}
			}
		}
	}
}

func TestWrittenLasts(t *testing.T) {
	s := made(t, 20)
	if e := s.Write(5, count(30, 10)); e != api.OK {
		t.Fatal(e)
	}
	// Losses of power elsewhere, fuses, copies and reads don't change it.
	for i := range 40 {
		s.Fuse(i%4, byte(i), i%2 == 0)
		s.Write(0, count(i, 1+i%5))
		s.Spoil(15+i%5, byte(i), i%3 == 0)
		s.Fuse(3, 9, true)
		s.Raise()
		s.Write(15, count(i, 5))
		s = s.Copy()
		if b, e := s.Read(5, 10); e != api.OK || !bytes.Equal(b, count(30, 10)) {
			t.Fatal(i, b, e)
		}
	}
}

// chance tells numbers that look like no others: the same ones for each seed.
type chance uint32

func (c *chance) below(n int) int {
	*c = *c*1664525 + 1013904223
	return int(*c>>8) % n
}

// pair is a store, and what it must be.
type pair struct {
	s *Store
	m *model
}

// step does one thing to one of the pairs, by chance, and fails if any answer is another than the model's.
func (c *chance) step(t *testing.T, ps []pair) {
	t.Helper()
	i := c.below(len(ps))
	p := ps[i]
	at, n := c.below(p.m.size+4)-2, c.below(p.m.size+4)-2
	by, unread := byte(c.below(4)), c.below(2) == 0
	b := make([]byte, max(n, 0))
	for k := range b {
		b[k] = byte(c.below(4))
	}
	what := c.below(20)
	switch {
	case what < 6:
		if got, want := p.s.Write(at, b), p.m.write(at, b); got != want {
			t.Fatalf("Write(%d, %v): %d, not %d", at, b, got, want)
		}
	case what < 11:
		got, e := p.s.Read(at, n)
		want, f := p.m.read(at, n)
		if e != f || !bytes.Equal(got, want) {
			t.Fatalf("Read(%d, %d): %v, %d, not %v, %d", at, n, got, e, want, f)
		}
	case what < 14:
		p.s.Fuse(n, by, unread)
		p.m.lay(n, by, unread)
	case what < 16:
		p.s.Raise()
		p.m.raise()
	case what < 18:
		if got, want := p.s.Spoil(at, by, unread), p.m.spoil(at, by, unread); got != want {
			t.Fatalf("Spoil(%d): %d, not %d", at, got, want)
		}
	default:
		ps[c.below(len(ps))] = pair{p.s.Copy(), p.m.copied()}
	}
	for _, p := range ps {
		if p.s.Len() != p.m.size || p.s.Dead() != p.m.down {
			t.Fatalf("%d bytes, dead: %t; not %d, %t", p.s.Len(), p.s.Dead(), p.m.size, p.m.down)
		}
		for _, o := range ps {
			if p.s.Same(o.s) != p.m.same(o.m) {
				t.Fatalf("Same: %t", p.s.Same(o.s))
			}
		}
	}
}

func TestWhateverIsDone(t *testing.T) {
	for seed := range 300 {
		c := chance(seed)
		ps := make([]pair, 3)
		for i := range ps {
			n := 1 + c.below(4)
			ps[i] = pair{made(t, n), &model{size: n}}
		}
		for range 120 {
			c.step(t, ps)
		}
		for _, p := range ps {
			var want []byte
			var unread []int
			for i := range p.m.size {
				e := p.m.last(i)
				want = append(want, e.value)
				if e.unread {
					unread = append(unread, i)
				}
			}
			held(t, p.s, want, unread...)
		}
	}
}
