package boot

import (
	"bytes"
	"fmt"
	"math"
	"math/big"
	"slices"
	"strings"
	"testing"

	"guidepost/api"
	"guidepost/store"
)

const greatest = uint64(math.MaxUint64)

// cell is a byte of a model's, and whether it is unreadable.
type cell struct {
	value  byte
	unread bool
}

// fuse is what a model loses its power by: after left bytes more one becomes torn. A nil one: it does not.
type fuse struct {
	left int
	torn cell
}

// model is what a store has, worked out in another way than the program's.
type model struct {
	cells []cell
	fuse  *fuse
	down  bool
}

// Each digit of the second text stands where the one stands in the first whose bits are its own, turned.
const digits, turnedDigits = "0123456789abcdef", "fedcba9876543210"

// slotOf are a slot's bytes, by way of texts.
func slotOf(n uint64) []byte {
	text := fmt.Sprintf("%016x", n)
	turned := ""
	for _, r := range text {
		turned += string(turnedDigits[strings.IndexRune(digits, r)])
	}
	b, ok := new(big.Int).SetString("1"+text+turned, 16)
	if !ok {
		panic(text)
	}
	return b.Bytes()[1:]
}

// goodIn is the number of the slot from at on: each bit of it is another than that of its second half.
func (m *model) goodIn(at int) (uint64, bool) {
	n := uint64(0)
	for bit := range 64 {
		first, second := m.cells[at+bit/8], m.cells[at+8+bit/8]
		one := first.value >> (7 - bit%8) & 1
		if first.unread || second.unread || one+second.value>>(7-bit%8)&1 != 1 {
			return 0, false
		}
		n = n*2 + uint64(one)
	}
	return n, true
}

func (m *model) put(at int, b []byte) api.Errno {
	for i, x := range b {
		if m.fuse != nil && m.fuse.left == 0 {
			m.cells[at+i], m.down = m.fuse.torn, true
			return api.ErrState
		}
		if m.fuse != nil {
			m.fuse.left--
		}
		m.cells[at+i] = cell{value: x}
	}
	return api.OK
}

func (m *model) refused() api.Errno {
	if len(m.cells) < 32 {
		return api.ErrArg
	}
	if m.down {
		return api.ErrState
	}
	return api.OK
}

func (m *model) make() api.Errno {
	if e := m.refused(); e != api.OK {
		return e
	}
	if e := m.put(0, slotOf(0)); e != api.OK {
		return e
	}
	return m.put(16, slotOf(0))
}

func (m *model) count() (uint64, api.Errno) {
	if e := m.refused(); e != api.OK {
		return 0, e
	}
	var all []uint64
	for _, at := range []int{0, 16} {
		if n, good := m.goodIn(at); good {
			all = append(all, n)
		}
	}
	if len(all) == 0 {
		return 0, api.ErrTorn
	}
	return slices.Max(all), api.OK
}

// place is where the slot is that is written: the first one that has not c, or, where both have it, the first one.
func (m *model) place(c uint64) int {
	for _, at := range []int{0, 16, 0} {
		if n, good := m.goodIn(at); !good || n != c {
			return at
		}
	}
	return 0
}

func (m *model) begin() (uint64, api.Errno) {
	c, e := m.count()
	if e != api.OK {
		return 0, e
	}
	if c == greatest {
		return 0, api.ErrFull
	}
	if e := m.put(m.place(c), slotOf(c+1)); e != api.OK {
		return 0, e
	}
	return c + 1, api.OK
}

func (m *model) lay(left int, by byte, unread bool) {
	m.fuse = nil
	if left >= 0 {
		m.fuse = &fuse{left, cell{by, unread}}
	}
}

func (m *model) raise() { m.fuse, m.down = nil, false }

func (m *model) copied() *model {
	c := *m
	c.cells = slices.Clone(m.cells)
	if m.fuse != nil {
		f := *m.fuse
		c.fuse = &f
	}
	return &c
}

// blank is a model of n noughts.
func blank(n int) *model { return &model{cells: make([]cell, n)} }

// of is a model whose slots have those bytes, and n more behind them: 1, 2, 3 and on, each third of them unreadable.
func of(first, second []byte, n int) *model {
	m := blank(32 + n)
	m.put(0, first)
	m.put(16, second)
	for i := range n {
		m.cells[32+i] = cell{byte(i + 1), i%3 == 2}
	}
	return m
}

// numbered is a model whose slots are those numbers'.
func numbered(first, second uint64) *model { return of(slotOf(first), slotOf(second), 3) }

// spoilt is m, of which the byte at a place is another one.
func (m *model) spoilt(at int, by byte, unread bool) *model {
	c := m.copied()
	c.cells[at] = cell{by, unread}
	return c
}

// store is a store that has what m has.
func (m *model) store(t *testing.T) *store.Store {
	t.Helper()
	s, e := store.New(len(m.cells))
	if e != api.OK {
		t.Fatal(e)
	}
	if m.down {
		s.Fuse(0, 0, false)
		s.Write(0, []byte{0})
	}
	if m.fuse != nil {
		s.Fuse(m.fuse.left, m.fuse.torn.value, m.fuse.torn.unread)
	}
	for i, c := range m.cells {
		s.Spoil(i, c.value, c.unread)
	}
	return s
}

// held fails if s has not what m has; it leaves s as it is.
func held(t *testing.T, s *store.Store, m *model) {
	t.Helper()
	want := m.store(t)
	if !s.Same(want) {
		t.Fatalf("the store is %s, not %s", shown(s), shown(want))
	}
	if s.Dead() != m.down {
		t.Fatalf("dead: %t, not %t", s.Dead(), m.down)
	}
	if m.down {
		return
	}
	// How long the fuse is shows in a copy that is written till the power goes.
	a, b := s.Copy(), want.Copy()
	for range 40 {
		if x, y := a.Write(0, []byte{1}), b.Write(0, []byte{1}); x != y {
			t.Fatalf("the fuse is another: %d, not %d", x, y)
		}
	}
	if !a.Same(b) {
		t.Fatalf("the fuse tears to %s, not to %s", shown(a), shown(b))
	}
}

// shown are a store's bytes, as hexadecimal digits; '??' is one that is unreadable.
func shown(s *store.Store) string {
	c := s.Copy()
	c.Raise()
	text := ""
	for i := range c.Len() {
		if i%8 == 0 {
			text += " "
		}
		if b, e := c.Read(i, 1); e == api.OK {
			text += fmt.Sprintf("%02x", b)
		} else {
			text += "??"
		}
	}
	return text
}

// alike runs Count and Begin over what m has, beside m, and fails where they differ.
func alike(t *testing.T, m *model) {
	t.Helper()
	s := m.store(t)
	before := m.copied()
	wantCount, wantError := m.count()
	if n, e := Count(s); n != wantCount || e != wantError {
		t.Fatalf("Count of %s: %d, %d, not %d, %d", shown(s), n, e, wantCount, wantError)
	}
	held(t, s, before)
	want, wantError := m.begin()
	if n, e := Begin(s); n != want || e != wantError {
		t.Fatalf("Begin of %s: %d, %d, not %d, %d", shown(before.store(t)), n, e, want, wantError)
	}
	held(t, s, m)
}

// chance answers numbers that look like chance, the same ones in each run.
func chance(seed uint64) func(int) int {
	return func(n int) int {
		seed = seed*6364136223846793005 + 1442695040888963407
		return int(seed >> 33 % uint64(n))
	}
}

// numbers are those at edges, and some between.
func numbers() []uint64 {
	l := []uint64{0, 1, 2, 3, 127, 128, 254, 255, 256, 257, 65535, 65536, 1<<24 - 1, 1 << 24, 1<<32 - 1, 1 << 32, 1<<32 + 1, 1<<40 - 1, 1<<48 - 1, 1<<56 - 1, 1 << 56, 1<<63 - 1, 1 << 63, 1<<63 + 1, 0x0123456789abcdef, 0xfedcba9876543210, 0x00ff00ff00ff00ff, 0xff00ff00ff00ff00, greatest - 2, greatest - 1, greatest}
	next := chance(3)
	for range 30 {
		l = append(l, uint64(next(1<<30))<<34^uint64(next(1<<30))<<17^uint64(next(1<<30)))
	}
	return l
}

// missing are stores that are none: each call makes them anew.
func missing() []*store.Store { return []*store.Store{nil, {}, new(store.Store)} }

// calls are those that take a store, by their names.
func calls() map[string]func(*store.Store) (uint64, api.Errno) {
	return map[string]func(*store.Store) (uint64, api.Errno){
		"Make":  func(s *store.Store) (uint64, api.Errno) { return 0, Make(s) },
		"Begin": Begin,
		"Count": Count,
	}
}

// P8.1

func TestSlot(t *testing.T) {
	for n, want := range map[uint64][]byte{
		0:                  {0, 0, 0, 0, 0, 0, 0, 0, 255, 255, 255, 255, 255, 255, 255, 255},
		1:                  {0, 0, 0, 0, 0, 0, 0, 1, 255, 255, 255, 255, 255, 255, 255, 254},
		2:                  {0, 0, 0, 0, 0, 0, 0, 2, 255, 255, 255, 255, 255, 255, 255, 253},
		258:                {0, 0, 0, 0, 0, 0, 1, 2, 255, 255, 255, 255, 255, 255, 254, 253},
		1 << 63:            {128, 0, 0, 0, 0, 0, 0, 0, 127, 255, 255, 255, 255, 255, 255, 255},
		greatest - 1:       {255, 255, 255, 255, 255, 255, 255, 254, 0, 0, 0, 0, 0, 0, 0, 1},
		greatest:           {255, 255, 255, 255, 255, 255, 255, 255, 0, 0, 0, 0, 0, 0, 0, 0},
		0x0102030405060708: {1, 2, 3, 4, 5, 6, 7, 8, 254, 253, 252, 251, 250, 249, 248, 247},
	} {
		if b := Slot(n); !bytes.Equal(b, want) {
			t.Errorf("Slot(%d): %v, not %v", n, b, want)
		}
	}
	for _, n := range numbers() {
		if b := Slot(n); !bytes.Equal(b, slotOf(n)) {
			t.Errorf("Slot(%d): %v, not %v", n, b, slotOf(n))
		}
	}
}

func TestSlotIsNewMemory(t *testing.T) {
	b := Slot(5)
	clear(b)
	clear(b[:cap(b)])
	if c := Slot(5); !bytes.Equal(c, slotOf(5)) {
		t.Error(c)
	}
}

func TestGood(t *testing.T) {
	for _, n := range numbers() {
		b := slotOf(n)
		x, good := Good(b)
		if x != n || !good {
			t.Errorf("Good(%v): %d, %t", b, x, good)
		}
		if !bytes.Equal(b, slotOf(n)) {
			t.Errorf("Good changes its bytes to %v", b)
		}
	}
}

func TestGoodOfEachLength(t *testing.T) {
	for _, n := range numbers() {
		long := slices.Concat(slotOf(n), slotOf(n), slotOf(n), slotOf(n))
		for size := range len(long) + 1 {
			for at := range 17 {
				if at+size > len(long) || at%16 == 0 && size == 16 {
					continue
				}
				m := &model{cells: make([]cell, 64)}
				m.put(0, long)
				want, wantGood := uint64(0), false
				if size == 16 {
					want, wantGood = m.goodIn(at)
				}
				if x, good := Good(long[at : at+size]); x != want || good != wantGood {
					t.Errorf("Good(%v): %d, %t", long[at:at+size], x, good)
				}
			}
		}
		// What lies behind the bytes, up to their capacity, is none of them.
		if x, good := Good(slotOf(n)[:15]); x != 0 || good {
			t.Errorf("15 bytes of %d's slot: %d, %t", n, x, good)
		}
	}
	for _, none := range [][]byte{nil, {}} {
		if x, good := Good(none); x != 0 || good {
			t.Errorf("no bytes: %d, %t", x, good)
		}
	}
}

func TestGoodWithABitTurned(t *testing.T) {
	for _, n := range numbers() {
		for bit := range 128 {
			b := slotOf(n)
			b[bit/8] ^= 128 >> (bit % 8)
			if x, good := Good(b); x != 0 || good {
				t.Errorf("slot of %d, bit %d turned: %d, %t", n, bit, x, good)
			}
			// The same bit of the other half turned, too, makes it another number's.
			b[bit/8^8] ^= 128 >> (bit % 8)
			if x, good := Good(b); x != n^1<<(63-bit%64) || !good {
				t.Errorf("slot of %d, bit %d turned in both halves: %d, %t", n, bit, x, good)
			}
		}
	}
}

func TestGoodOfOtherBytes(t *testing.T) {
	for _, b := range [][]byte{
		make([]byte, 16),
		bytes.Repeat([]byte{255}, 16),
		bytes.Repeat([]byte{15, 240}, 8),
		slices.Concat(slotOf(7)[:8], slotOf(7)[:8]),
		slices.Concat(slotOf(7)[8:], slotOf(7)[8:]),
		slices.Concat(slotOf(7)[:8], slotOf(8)[8:]),
		// The second half is 0 less the first: one more than its bits turned.
		slices.Concat(slotOf(7)[:8], slotOf(6)[8:]),
	} {
		if x, good := Good(b); x != 0 || good {
			t.Errorf("Good(%v): %d, %t", b, x, good)
		}
	}
	swapped := slices.Concat(slotOf(7)[8:], slotOf(7)[:8])
	if x, good := Good(swapped); x != greatest-7 || !good {
		t.Errorf("halves swapped: %d, %t", x, good)
	}
}

func TestGoodByChance(t *testing.T) {
	next := chance(11)
	seen := map[bool]int{}
	for range 3000 {
		b := slotOf(numbers()[next(50)])
		for range next(3) {
			b[next(16)] = byte(next(256))
		}
		m := of(b, b, 0)
		want, wantGood := m.goodIn(0)
		if x, good := Good(b); x != want || good != wantGood {
			t.Fatalf("Good(%v): %d, %t", b, x, good)
		}
		seen[wantGood]++
	}
	if seen[true] < 100 || seen[false] < 100 {
		t.Error(seen)
	}
}

func TestMake(t *testing.T) {
	for _, n := range []int{32, 33, 47, 48, 64, 255, 4095, 4096} {
		m := of(slotOf(9), slotOf(greatest), n-32)
		m = m.spoilt(0, 4, true).spoilt(17, 5, true).spoilt(31, 6, true)
		s := m.store(t)
		if e := Make(s); e != api.OK {
			t.Fatalf("Make of %d bytes: %d", n, e)
		}
		// What is behind the slots stays, readable or not.
		m.put(0, []byte{0, 0, 0, 0, 0, 0, 0, 0, 255, 255, 255, 255, 255, 255, 255, 255})
		m.put(16, []byte{0, 0, 0, 0, 0, 0, 0, 0, 255, 255, 255, 255, 255, 255, 255, 255})
		held(t, s, m)
		if x, e := Count(s); x != 0 || e != api.OK {
			t.Errorf("a factory's of %d bytes: %d, %d", n, x, e)
		}
	}
}

func TestMakeWherePowerGoes(t *testing.T) {
	for _, m := range []*model{blank(32), numbered(5, 6), numbered(6, 5).spoilt(3, 1, true).spoilt(20, 1, true), of(make([]byte, 16), slotOf(3), 20)} {
		for left := -1; left <= 34; left++ {
			for _, torn := range []cell{{0, false}, {255, false}, {7, false}, {7, true}, {0, true}} {
				m := m.copied()
				m.lay(left, torn.value, torn.unread)
				s := m.store(t)
				want := m.make()
				if e := Make(s); e != want {
					t.Fatalf("fuse of %d: %d, not %d", left, e, want)
				}
				if (want == api.ErrState) != (left >= 0 && left < 32) {
					t.Fatalf("fuse of %d: %d", left, want)
				}
				held(t, s, m)
				// What is torn is made a factory's, too.
				m.raise()
				s.Raise()
				m.make()
				if e := Make(s); e != api.OK {
					t.Fatal(e)
				}
				held(t, s, m)
			}
		}
	}
}

// Make needs no good slot, and no counter below the greatest.
func TestMakeOfWhateverWas(t *testing.T) {
	for _, m := range []*model{blank(32), blank(40), numbered(greatest, greatest), numbered(0, greatest), numbered(7, 7), numbered(1, 2).spoilt(0, 0, true).spoilt(16, 0, true)} {
		s := m.store(t)
		if e := Make(s); e != api.OK {
			t.Error(e)
		}
		m.make()
		held(t, s, m)
		if x, e := Begin(s); x != 1 || e != api.OK {
			t.Error(x, e)
		}
	}
}

// P8.1, P8.2: what is refused

func TestStoresThatAreNone(t *testing.T) {
	for name, call := range calls() {
		for i, s := range missing() {
			if n, e := call(s); n != 0 || e != api.ErrNil {
				t.Errorf("%s of %d: %d, %d", name, i, n, e)
			}
			// A fuse makes no store of it, whose power could go.
			s.Fuse(0, 1, true)
			if n, e := call(s); n != 0 || e != api.ErrNil {
				t.Errorf("%s of %d: %d, %d", name, i, n, e)
			}
			if s.Len() != 0 || s.Dead() {
				t.Errorf("%s of %d changes it", name, i)
			}
		}
	}
}

func TestStoresTooSmall(t *testing.T) {
	if api.SlotBytes != 32 {
		t.Fatal(api.SlotBytes)
	}
	for name, call := range calls() {
		for n := 1; n < 32; n++ {
			m := blank(n)
			m.put(0, slices.Concat(slotOf(4), slotOf(5))[:n])
			// Too few bytes is told ahead of power that is gone, and of what is torn.
			for _, m := range []*model{m, m.spoilt(0, 1, true), {cells: m.cells, down: true}, {cells: m.cells, fuse: &fuse{0, cell{9, true}}}} {
				s := m.store(t)
				if x, e := call(s); x != 0 || e != api.ErrArg {
					t.Errorf("%s of %d bytes: %d, %d", name, n, x, e)
				}
				held(t, s, m)
			}
		}
	}
}

func TestStoresWithoutPower(t *testing.T) {
	for name, call := range calls() {
		for _, m := range []*model{
			blank(32), blank(4096),
			numbered(0, 0), numbered(5, 6), numbered(6, 5),
			// No power is told ahead of slots that are torn, and of the greatest number.
			numbered(5, 6).spoilt(0, 1, true).spoilt(16, 1, true),
			numbered(greatest, 6), numbered(6, greatest),
		} {
			m.down = true
			s := m.store(t)
			if x, e := call(s); x != 0 || e != api.ErrState {
				t.Errorf("%s: %d, %d", name, x, e)
			}
			held(t, s, m)
			s.Raise()
			m.raise()
			held(t, s, m)
			alike(t, m)
		}
	}
}

// P8.2

// states are stores of all kinds of two slots: of numbers that are alike, one more, or far; of bytes that are none's, and of unreadable ones.
func states() []*model {
	var l []*model
	few := []uint64{0, 1, 2, 255, 256, 1<<32 - 1, 1 << 63, 1<<63 - 1, greatest - 2, greatest - 1, greatest}
	for _, a := range few {
		for _, b := range few {
			l = append(l, numbered(a, b))
		}
	}
	for _, n := range few {
		turned := slotOf(n)
		turned[2] ^= 1
		for _, bad := range [][]byte{turned, make([]byte, 16), bytes.Repeat([]byte{255}, 16), slices.Concat(slotOf(n)[:8], slotOf(n + 1)[8:])} {
			l = append(l, of(slotOf(n), bad, 5), of(bad, slotOf(n), 5))
		}
		l = append(l, of(turned, turned, 1))
		for _, at := range []int{0, 7, 8, 15} {
			// An unreadable byte makes its slot no good one, whatever its value; the other one is none the worse.
			m := numbered(n, n/2)
			l = append(l, m.spoilt(at, m.cells[at].value, true), m.spoilt(16+at, m.cells[16+at].value, true))
			l = append(l, m.spoilt(at, 1, true).spoilt(16+15-at, 1, true))
			l = append(l, of(turned, slotOf(n), 2).spoilt(16+at, 9, true), of(slotOf(n), turned, 2).spoilt(at, 9, true))
		}
	}
	return append(l, blank(32), blank(33), blank(4096), of(slotOf(3), slotOf(4), 0), of(slotOf(3), slotOf(4), 4064))
}

func TestCountAndBegin(t *testing.T) {
	seen := map[api.Errno]int{}
	for _, m := range states() {
		_, e := m.copied().begin()
		seen[e]++
		alike(t, m.copied())
		for range 4 {
			alike(t, m)
		}
	}
	for _, e := range []api.Errno{api.OK, api.ErrTorn, api.ErrFull} {
		if seen[e] < 10 {
			t.Error(seen)
		}
	}
}

func TestWhichSlotIsWritten(t *testing.T) {
	bad := bytes.Repeat([]byte{9}, 16)
	for i, c := range []struct {
		m            *model
		count        uint64
		first, other []byte
	}{
		{numbered(0, 0), 0, slotOf(1), slotOf(0)},
		{numbered(1, 0), 1, slotOf(1), slotOf(2)},
		{numbered(1, 2), 2, slotOf(3), slotOf(2)},
		{numbered(7, 7), 7, slotOf(8), slotOf(7)},
		{numbered(8, 7), 8, slotOf(8), slotOf(9)},
		{numbered(7, 8), 8, slotOf(9), slotOf(8)},
		{numbered(7, 100), 100, slotOf(101), slotOf(100)},
		{numbered(100, 7), 100, slotOf(100), slotOf(101)},
		{numbered(1<<63, 1), 1 << 63, slotOf(1 << 63), slotOf(1<<63 + 1)},
		{numbered(1, 1<<63), 1 << 63, slotOf(1<<63 + 1), slotOf(1 << 63)},
		{numbered(greatest-1, 1), greatest - 1, slotOf(greatest - 1), slotOf(greatest)},
		{of(bad, slotOf(0), 3), 0, slotOf(1), slotOf(0)},
		{of(slotOf(0), bad, 3), 0, slotOf(0), slotOf(1)},
		{of(bad, slotOf(7), 3), 7, slotOf(8), slotOf(7)},
		{of(slotOf(7), bad, 3), 7, slotOf(7), slotOf(8)},
	} {
		s := c.m.store(t)
		if n, e := Count(s); n != c.count || e != api.OK {
			t.Errorf("%d: Count %d, %d", i, n, e)
		}
		if n, e := Begin(s); n != c.count+1 || e != api.OK {
			t.Errorf("%d: Begin %d, %d", i, n, e)
		}
		held(t, s, of(c.first, c.other, 3))
		if n, e := Count(s); n != c.count+1 || e != api.OK {
			t.Errorf("%d: Count behind it %d, %d", i, n, e)
		}
	}
}

func TestExamples(t *testing.T) {
	s, _ := store.New(32)
	Make(s)
	for i, want := range []*model{of(slotOf(1), slotOf(0), 0), of(slotOf(1), slotOf(2), 0), of(slotOf(3), slotOf(2), 0)} {
		if n, e := Begin(s); n != uint64(i+1) || e != api.OK {
			t.Error(i, n, e)
		}
		held(t, s, want)
	}
	// The power is lost in writing 2.
	for left := range 16 {
		Make(s)
		Begin(s)
		s.Fuse(left, 0x5a, true)
		if n, e := Begin(s); n != 0 || e != api.ErrState {
			t.Error(left, n, e)
		}
		s.Raise()
		if n, e := Begin(s); n != 2 || e != api.OK {
			t.Error(left, n, e)
		}
	}
}

func TestNoSlotIsGood(t *testing.T) {
	for _, m := range []*model{
		blank(32), of(bytes.Repeat([]byte{255}, 16), make([]byte, 16), 2),
		numbered(4, 5).spoilt(0, 0, true).spoilt(16, 0, true),
		numbered(4, 5).spoilt(15, 251, true).spoilt(31, 250, true),
		numbered(4, 5).spoilt(7, 5, false).spoilt(24, 0, true),
		// Halves fit over the slots' bounds, but not in them.
		of(slices.Concat(slotOf(4)[8:], slotOf(5)[8:]), slices.Concat(slotOf(4)[:8], slotOf(5)[:8]), 2),
		of(slotOf(4)[8:], slotOf(4)[8:], 0),
	} {
		for _, left := range []int{-1, 0, 16} {
			m.lay(left, 3, false)
			s := m.store(t)
			for range 2 {
				if n, e := Count(s); n != 0 || e != api.ErrTorn {
					t.Error("Count:", n, e)
				}
				if n, e := Begin(s); n != 0 || e != api.ErrTorn {
					t.Error("Begin:", n, e)
				}
				held(t, s, m)
			}
		}
	}
}

// A good slot behind the first 32 bytes, or one between both, is none.
func TestSlotsStandAtTheirPlaces(t *testing.T) {
	for at := range 49 {
		m := blank(64)
		m.put(at, slotOf(0x0102030405060708))
		want := api.ErrTorn
		if at == 0 || at == 16 {
			want = api.OK
		}
		if _, e := Count(m.store(t)); e != want {
			t.Errorf("a slot at %d: %d", at, e)
		}
		alike(t, m)
	}
}

func TestTheGreatestCounter(t *testing.T) {
	bad := make([]byte, 16)
	for i, m := range []*model{
		numbered(greatest, greatest), numbered(greatest, 0), numbered(0, greatest),
		numbered(greatest, greatest-1), numbered(greatest-1, greatest),
		of(slotOf(greatest), bad, 3), of(bad, slotOf(greatest), 3),
		numbered(greatest, 5).spoilt(20, 1, true), numbered(5, greatest).spoilt(3, 1, true),
	} {
		// It is no error of Count's; and Begin writes nothing: no fuse, however short, loses the power.
		for left := -1; left < 20; left++ {
			m.lay(left, 3, true)
			s := m.store(t)
			for range 3 {
				if n, e := Count(s); n != greatest || e != api.OK {
					t.Errorf("%d: Count %d, %d", i, n, e)
				}
				if n, e := Begin(s); n != 0 || e != api.ErrFull {
					t.Errorf("%d: Begin %d, %d", i, n, e)
				}
				held(t, s, m)
			}
		}
	}
	s := numbered(greatest-2, greatest-3).store(t)
	for i, want := range []uint64{greatest - 1, greatest, 0, 0} {
		e := api.OK
		if i > 1 {
			e = api.ErrFull
		}
		if n, f := Begin(s); n != want || f != e {
			t.Errorf("step %d: %d, %d", i, n, f)
		}
	}
	held(t, s, numbered(greatest, greatest-1))
}

// A fuse that lasts for all 16 bytes does not end in Begin, but at the byte behind them.
func TestBeginWherePowerJustLasts(t *testing.T) {
	for left := 16; left < 20; left++ {
		m := numbered(4, 5)
		m.lay(left, 9, true)
		s := m.store(t)
		if n, e := Begin(s); n != 6 || e != api.OK {
			t.Errorf("fuse of %d: %d, %d", left, n, e)
		}
		m.cells = numbered(6, 5).cells
		m.fuse.left -= 16
		held(t, s, m)
		if n, e := Begin(s); n != 0 || e != api.ErrState {
			t.Errorf("fuse of %d: %d, %d", left, n, e)
		}
	}
}

// Count reads: it takes nothing of a fuse.
func TestCountWritesNothing(t *testing.T) {
	m := numbered(4, 5)
	m.lay(0, 9, true)
	s := m.store(t)
	for range 40 {
		if n, e := Count(s); n != 5 || e != api.OK {
			t.Error(n, e)
		}
	}
	held(t, s, m)
}

func TestStoresApart(t *testing.T) {
	a, b := numbered(0, 0).store(t), numbered(0, 0).store(t)
	for i := range 3 {
		if n, e := Begin(a); n != uint64(i+1) || e != api.OK {
			t.Error(n, e)
		}
	}
	if n, e := Begin(b); n != 1 || e != api.OK {
		t.Error(n, e)
	}
	c := a.Copy()
	Begin(c)
	Begin(c)
	if n, e := Begin(a); n != 4 || e != api.OK {
		t.Error(n, e)
	}
	if n, e := Count(c); n != 5 || e != api.OK {
		t.Error(n, e)
	}
}

// P8.3

// lost begins at a store whose power goes after left bytes, and raises it; it fails if Begin tells a number then.
func lost(t *testing.T, s *store.Store, m *model, left int, torn cell) {
	t.Helper()
	s.Fuse(left, torn.value, torn.unread)
	m.lay(left, torn.value, torn.unread)
	want, wantError := m.begin()
	if n, e := Begin(s); n != want || e != wantError || e == api.OK && left < 16 {
		t.Fatalf("fuse of %d, torn to %v: %d, %d, not %d, %d", left, torn, n, e, want, wantError)
	}
	held(t, s, m)
	s.Raise()
	m.raise()
}

func TestEachLoss(t *testing.T) {
	for _, c := range []uint64{0, 1, 254, 255, 256, 65535, 1<<32 - 1, 1 << 32, 1<<56 - 1, 1<<63 - 1, 1 << 63, greatest - 2, greatest - 1} {
		for _, m := range []*model{numbered(c, c), numbered(c, c-min(c, 1)), numbered(c-min(c, 1), c), of(slotOf(c), make([]byte, 16), 3), of(make([]byte, 16), slotOf(c), 3)} {
			for left := range 16 {
				for by := range 256 {
					m := m.copied()
					s := m.store(t)
					lost(t, s, m, left, cell{byte(by), by%5 == 0})
					n, e := Begin(s)
					want, wantError := m.begin()
					if n != want || e != wantError {
						t.Fatalf("%d, fuse of %d, torn to %d: %d, %d, not %d, %d", c, left, by, n, e, want, wantError)
					}
					full := e == api.ErrFull && c == greatest-1
					if !full && (e != api.OK || n <= c) {
						t.Fatalf("%d, fuse of %d, torn to %d: %d, %d", c, left, by, n, e)
					}
				}
			}
		}
	}
}

// The whole slot may be written but for what the last byte was torn to: then its number is one that was never told, and the next is above it.
func TestTornToWhatWouldHaveBeenWritten(t *testing.T) {
	s := numbered(0, 0).store(t)
	s.Fuse(15, 0xfe, false)
	if n, e := Begin(s); n != 0 || e != api.ErrState {
		t.Error(n, e)
	}
	s.Raise()
	held(t, s, numbered(1, 0))
	if n, e := Begin(s); n != 2 || e != api.OK {
		t.Error(n, e)
	}
	// Torn to what it was it is the slot that was.
	s = numbered(1, 2).store(t)
	s.Fuse(7, 1, false)
	if n, e := Begin(s); n != 0 || e != api.ErrState {
		t.Error(n, e)
	}
	s.Raise()
	held(t, s, numbered(1, 2))
	if n, e := Begin(s); n != 3 || e != api.OK {
		t.Error(n, e)
	}
}

// tear lets the power go at each byte of the slot that is written, the last one first, torn to those bytes.
func tear(t *testing.T, s *store.Store, m *model, b []byte) {
	t.Helper()
	for left := 15; left >= 0; left-- {
		lost(t, s, m, left, cell{b[left], false})
	}
}

// Losses may make any number of the slot that is written, but none below what was told is told again.
func TestTornToAnotherNumber(t *testing.T) {
	for _, c := range []uint64{0, 1, 5, 256, 1 << 63, greatest - 2} {
		for _, x := range numbers() {
			m := numbered(c, c-min(c, 1))
			s := m.store(t)
			tear(t, s, m, slotOf(x))
			// As soon as the slot has come to a greater number, the other one is written instead: so it need not come to be x's.
			n, e := Count(s)
			if e != api.OK || n < c {
				t.Fatalf("%d torn to %d: %d, %d", c, x, n, e)
			}
			if want, f := m.count(); n != want || e != f {
				t.Fatalf("%d torn to %d: %d, %d, not %d, %d", c, x, n, e, want, f)
			}
			last := n
			for range 3 {
				n, e := Begin(s)
				switch {
				case last == greatest && e == api.ErrFull && n == 0:
				case e != api.OK || n != last+1:
					t.Fatalf("%d torn to %d: %d, %d behind %d", c, x, n, e, last)
				default:
					last = n
				}
			}
		}
	}
}

func TestTornToTheGreatest(t *testing.T) {
	m := numbered(4, 3)
	s := m.store(t)
	tear(t, s, m, slotOf(greatest))
	for range 5 {
		if n, e := Count(s); n != greatest || e != api.OK {
			t.Error(n, e)
		}
		if n, e := Begin(s); n != 0 || e != api.ErrFull {
			t.Error(n, e)
		}
	}
	held(t, s, numbered(4, greatest))
}

// Of two slots with the counter just one is written: the other one keeps it, wherever the power goes.
func TestTornToTheCounter(t *testing.T) {
	m := numbered(4, 3)
	s := m.store(t)
	tear(t, s, m, slotOf(4))
	held(t, s, numbered(4, 4))
	for left := range 16 {
		m, s := m.copied(), s.Copy()
		lost(t, s, m, left, cell{77, true})
		if n, e := Count(s); n != 4 || e != api.OK {
			t.Error(left, n, e)
		}
		if n, e := Begin(s); n != 5 || e != api.OK {
			t.Error(left, n, e)
		}
		held(t, s, numbered(5, 4))
	}
}

func TestManyLosses(t *testing.T) {
	for seed := range uint64(60) {
		next := chance(seed)
		m := blank(32 + next(5))
		s := m.store(t)
		m.make()
		if e := Make(s); e != api.OK {
			t.Fatal(e)
		}
		last := uint64(0)
		for step := range 200 {
			if next(3) > 0 {
				// Most bytes are torn to what is near to a good slot.
				by := []byte{0, 255, 1, 254, byte(last), ^byte(last), byte(last + 1), ^byte(last + 1), byte(next(256))}[next(9)]
				left := next(20)
				m.lay(left, by, next(4) == 0)
				s.Fuse(left, by, m.fuse.torn.unread)
			}
			want, wantError := m.begin()
			n, e := Begin(s)
			if n != want || e != wantError {
				t.Fatalf("seed %d, step %d: %d, %d, not %d, %d", seed, step, n, e, want, wantError)
			}
			held(t, s, m)
			switch e {
			case api.OK:
				if n <= last {
					t.Fatalf("seed %d, step %d: %d behind %d", seed, step, n, last)
				}
				last = n
			case api.ErrState:
			default:
				if c, _ := Count(s); e != api.ErrFull || c != greatest {
					t.Fatalf("seed %d, step %d: %d", seed, step, e)
				}
			}
			s.Raise()
			m.raise()
			if c, e := Count(s); e != api.OK || c < last {
				t.Fatalf("seed %d, step %d: Count %d, %d behind %d", seed, step, c, e, last)
			}
		}
	}
}

// Slots that are spoilt, and a factory's store made in between, are what the power alone never makes; the answers are the model's all the same.
func TestWhateverHappens(t *testing.T) {
	seen := map[api.Errno]int{}
	for seed := range uint64(200) {
		next := chance(seed + 1000)
		m := blank(30 + next(5))
		s := m.store(t)
		for step := range 60 {
			switch next(8) {
			case 0:
				if e, want := Make(s), m.make(); e != want {
					t.Fatalf("seed %d, step %d: Make %d, not %d", seed, step, e, want)
				}
			case 1:
				at, by, unread := next(len(m.cells)), byte(next(256)), next(2) == 0
				s.Spoil(at, by, unread)
				m.cells[at] = cell{by, unread}
			case 2:
				left, by, unread := next(40)-1, byte(next(256)), next(2) == 0
				s.Fuse(left, by, unread)
				m.lay(left, by, unread)
			case 3, 4:
				s.Raise()
				m.raise()
			case 5:
				n, e := Count(s)
				if want, f := m.count(); n != want || e != f {
					t.Fatalf("seed %d, step %d: Count %d, %d, not %d, %d", seed, step, n, e, want, f)
				}
			case 6:
				s = s.Copy()
			default:
				n, e := Begin(s)
				want, f := m.begin()
				if n != want || e != f {
					t.Fatalf("seed %d, step %d: Begin %d, %d, not %d, %d", seed, step, n, e, want, f)
				}
				seen[e]++
			}
			held(t, s, m)
		}
	}
	for _, e := range []api.Errno{api.OK, api.ErrArg, api.ErrState, api.ErrTorn} {
		if seen[e] < 10 {
			t.Error(seen)
		}
	}
}
