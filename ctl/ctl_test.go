package ctl

import (
	"bytes"
	"fmt"
	"math"
	"slices"
	"strings"
	"testing"

	"guidepost/api"
)

// update is one of four bytes, a Len and a distance, which need not be one that may be.
func update(a, b, c, d byte, n, distance int) api.Update {
	return api.Update{Prefix: api.Prefix{Addr: api.Addr(a)<<24 | api.Addr(b)<<16 | api.Addr(c)<<8 | api.Addr(d), Len: n}, Distance: distance}
}

// addrs are addresses with a last bit of one at several places, and with none.
func addrs() []uint64 {
	return []uint64{0, 1, 0x0a000000, 0x0a010200, 0x0a010203, 0x0affffff, 0x7fffffff, 0x80000000, 0xc0a80001, 0xfffffffe, 0xffffffff}
}

// distances are the edges of what may be, and some between.
func distances() []int { return []int{0, 1, 2, 7, 9, 10, 99, 100, 127, 128, 200, 254, 255} }

// wrongDistances may not be.
func wrongDistances() []int {
	return []int{-1, 256, -255, -256, 257, 300, 511, 512, 1 << 32, 1<<32 + 5, -1 << 32, math.MinInt, math.MaxInt}
}

// samples are updates that may be: of each Len those of several addresses, and of each distance at least one.
func samples() []api.Update {
	var l []api.Update
	for _, a := range addrs() {
		for n := range 33 {
			// What stands behind the Len goes by a division, not by the program's way.
			room := uint64(1) << (32 - n)
			p := api.Prefix{Addr: api.Addr(a / room * room), Len: n}
			for _, d := range distances() {
				l = append(l, api.Update{Prefix: p, Distance: d})
			}
		}
	}
	for d := range 256 {
		l = append(l, update(10, 1, 2, 0, 24, d))
	}
	return l
}

// wrong are updates that may not be: of their prefix, of their distance, of both.
func wrong() []api.Update {
	l := []api.Update{
		update(0, 0, 0, 1, 0, 3), update(128, 0, 0, 0, 0, 3), update(10, 0, 0, 1, 8, 3), update(10, 64, 0, 0, 9, 3),
		update(10, 1, 0, 0, 15, 3), update(0, 0, 0, 1, 31, 3), update(255, 255, 255, 255, 31, 0), update(10, 0, 0, 1, 8, 256),
	}
	for _, n := range []int{-1, 33, -8, 34, 64, 255, 256, 264, 1 << 32, math.MinInt, math.MaxInt} {
		l = append(l, update(0, 0, 0, 0, n, 0), update(10, 0, 0, 0, n, 255), update(10, 0, 0, 0, n, -1))
	}
	for _, d := range wrongDistances() {
		l = append(l, update(0, 0, 0, 0, 0, d), update(10, 0, 0, 0, 8, d), update(1, 2, 3, 4, 32, d))
	}
	return l
}

// spelt are an update's bytes, worked out in another way than the program's.
func spelt(u api.Update) []byte {
	a := int64(u.Prefix.Addr)
	return []byte{byte(a / 16777216), byte(a / 65536 % 256), byte(a / 256 % 256), byte(a % 256), byte(u.Prefix.Len), byte(u.Distance)}
}

// told is an update's text, worked out in another way than the program's.
func told(u api.Update) string {
	b := spelt(u)
	return fmt.Sprintf("%d.%d.%d.%d/%d %d", b[0], b[1], b[2], b[3], u.Prefix.Len, u.Distance)
}

// many are so many updates that may be, no two of them the same.
func many(n int) []api.Update {
	l := make([]api.Update, n)
	for i := range l {
		l[i] = update(byte(200-i), 1, byte(i), 0, 24+i%9, (i*37)%256)
	}
	return l
}

// listed are a list's bytes, with that count, worked out in another way than the program's.
func listed(count int, l ...api.Update) []byte {
	b := []byte{byte(count)}
	for _, u := range l {
		b = append(b, spelt(u)...)
	}
	return b
}

// varied are bytes that look like no other's: the same ones for each seed.
func varied(size int, seed uint32) []byte {
	b := make([]byte, size)
	for i := range b {
		seed = seed*1664525 + 1013904223
		b[i] = byte(seed >> 24)
	}
	return b
}

// P5.1

func TestMay(t *testing.T) {
	for _, u := range samples() {
		if !May(u) {
			t.Error("it may be: ", u)
		}
	}
	for _, u := range wrong() {
		if May(u) {
			t.Error("it may not be: ", u)
		}
	}
	for n := range 33 { // each bit behind the Len, and each within
		for bit := range 32 {
			u := api.Update{Prefix: api.Prefix{Addr: 1 << bit, Len: n}, Distance: 1}
			if May(u) != (32-bit <= n) {
				t.Error(u, May(u))
			}
		}
	}
}

func TestBytes(t *testing.T) {
	for _, x := range []struct {
		u    api.Update
		want []byte
	}{
		{update(10, 0, 0, 0, 8, 5), []byte{10, 0, 0, 0, 8, 5}},
		{update(1, 2, 3, 4, 32, 6), []byte{1, 2, 3, 4, 32, 6}},
		{update(255, 255, 255, 255, 32, 255), []byte{255, 255, 255, 255, 32, 255}},
		{api.Update{}, []byte{0, 0, 0, 0, 0, 0}},
		{update(0, 0, 0, 0, 32, 0), []byte{0, 0, 0, 0, 32, 0}},
		{update(0, 0, 0, 0, 0, 255), []byte{0, 0, 0, 0, 0, 255}},
		{update(128, 0, 0, 0, 1, 254), []byte{128, 0, 0, 0, 1, 254}},
	} {
		if b, e := Bytes(x.u); e != api.OK || !slices.Equal(b, x.want) {
			t.Errorf("Bytes(%v) = %v, %v", x.u, b, e)
		}
	}
	for _, u := range samples() {
		if b, e := Bytes(u); e != api.OK || !slices.Equal(b, spelt(u)) {
			t.Errorf("Bytes(%v) = %v, %v", u, b, e)
		}
	}
	for _, u := range wrong() {
		if b, e := Bytes(u); b != nil || e != api.ErrArg {
			t.Errorf("Bytes(%v) = %v, %v", u, b, e)
		}
	}
}

func TestBytesAreNew(t *testing.T) {
	u := update(10, 1, 0, 0, 16, 9)
	b, _ := Bytes(u)
	clear(b)
	if again, _ := Bytes(u); !slices.Equal(again, []byte{10, 1, 0, 0, 16, 9}) {
		t.Error("a second call answers otherwise: ", again)
	}
}

func TestOf(t *testing.T) {
	for _, u := range samples() {
		b := spelt(u)
		if got, e := Of(b); e != api.OK || got != u || !slices.Equal(b, spelt(u)) {
			t.Errorf("Of(%v) = %v, %v", b, got, e)
		}
	}
	room := append(spelt(update(10, 0, 0, 0, 8, 5)), 7, 7, 7, 7)
	if got, e := Of(room[:6]); e != api.OK || got != update(10, 0, 0, 0, 8, 5) || !slices.Equal(room, []byte{10, 0, 0, 0, 8, 5, 7, 7, 7, 7}) {
		t.Error("bytes with room behind them: ", got, e, room)
	}
}

func TestOfRefuses(t *testing.T) {
	refused := func(b []byte) {
		t.Helper()
		if u, e := Of(b); u != (api.Update{}) || e != api.ErrBytes {
			t.Errorf("Of(%v) = %v, %v", b, u, e)
		}
	}
	for _, b := range [][]byte{
		nil, {}, {10, 0, 0, 1, 8, 5}, {10, 1, 0, 0, 15, 1}, {0, 0, 0, 1, 0, 1}, {128, 0, 0, 0, 0, 0}, {0, 0, 0, 1, 31, 255},
		{10, 0, 0, 0, 33, 5}, {0, 0, 0, 0, 33, 0}, {0, 0, 0, 0, 64, 1}, {0, 0, 0, 0, 128, 1}, {10, 0, 0, 0, 255, 5}, {255, 255, 255, 255, 31, 1},
		{8, 10, 0, 0, 0, 5}, {5, 8, 0, 0, 0, 10},
	} {
		refused(b)
	}
	for size := range 40 { // of each but the right size, noughts too
		if b := append(spelt(update(10, 0, 0, 0, 8, 5)), make([]byte, 40)...)[:size]; size != 6 {
			refused(b)
			refused(make([]byte, size))
		}
	}
}

// TestOfEachLen: each byte as the Len, with each distance.
func TestOfEachLen(t *testing.T) {
	for n := range 256 {
		for d := range 256 {
			for _, a := range addrs() {
				b := []byte{byte(a >> 24), byte(a >> 16), byte(a >> 8), byte(a), byte(n), byte(d)}
				want, e := api.Update{}, api.ErrBytes
				if n < 33 && a%(uint64(1)<<(32-n)) == 0 {
					want, e = api.Update{Prefix: api.Prefix{Addr: api.Addr(a), Len: n}, Distance: d}, api.OK
				}
				if got, f := Of(b); got != want || f != e {
					t.Fatalf("Of(%v) = %v, %v", b, got, f)
				}
			}
		}
	}
}

// P5.2

func TestList(t *testing.T) {
	if b, e := List(); e != api.OK || !slices.Equal(b, []byte{0}) {
		t.Error("none: ", b, e)
	}
	if b, e := List([]api.Update{}...); e != api.OK || !slices.Equal(b, []byte{0}) {
		t.Error("an empty list: ", b, e)
	}
	two := []api.Update{update(10, 0, 0, 0, 8, 5), update(1, 2, 3, 4, 32, 255)}
	if b, e := List(two...); e != api.OK || !slices.Equal(b, []byte{2, 10, 0, 0, 0, 8, 5, 1, 2, 3, 4, 32, 255}) {
		t.Error("two: ", b, e)
	}
	if b, e := List(two[1], two[0], two[1]); e != api.OK || !slices.Equal(b, []byte{3, 1, 2, 3, 4, 32, 255, 10, 0, 0, 0, 8, 5, 1, 2, 3, 4, 32, 255}) {
		t.Error("as they come, one twice: ", b, e)
	}
	for n := range 33 {
		if b, e := List(many(n)...); e != api.OK || !slices.Equal(b, listed(n, many(n)...)) {
			t.Error(n, b, e)
		}
	}
	for _, u := range samples() {
		if b, e := List(u); e != api.OK || !slices.Equal(b, listed(1, u)) {
			t.Error(u, b, e)
		}
	}
}

func TestListRefuses(t *testing.T) {
	for _, n := range []int{33, 34, 64, 255, 256, 257, 288, 5000} {
		if b, e := List(make([]api.Update, n)...); b != nil || e != api.ErrLong {
			t.Error(n, b, e)
		}
	}
	for _, u := range wrong() {
		if b, e := List(u); b != nil || e != api.ErrArg {
			t.Error("alone: ", u, b, e)
		}
		for _, n := range []int{2, 3, 32, 33, 34, 100, 256, 257} { // among more than 32 it counts first, wherever it stands
			for _, at := range []int{0, 1, n / 2, 31, 32, n - 1} {
				if at >= n {
					continue
				}
				l := make([]api.Update, n)
				l[at] = u
				if b, e := List(l...); b != nil || e != api.ErrArg {
					t.Error(n, at, u, b, e)
				}
			}
		}
	}
}

func TestListIsNew(t *testing.T) {
	l := many(32)
	b, _ := List(l...)
	if !slices.Equal(l, many(32)) {
		t.Error("what is handed in was changed: ", l)
	}
	clear(l)
	if !slices.Equal(b, listed(32, many(32)...)) {
		t.Error("what is told hangs on what was handed in: ", b)
	}
	clear(b)
	if again, e := List(many(32)...); e != api.OK || !slices.Equal(again, listed(32, many(32)...)) {
		t.Error("a second call answers otherwise: ", again, e)
	}
}

func TestUnlist(t *testing.T) {
	for n := range 33 {
		b := listed(n, many(n)...)
		if l, e := Unlist(b); e != api.OK || !slices.Equal(l, many(n)) || !slices.Equal(b, listed(n, many(n)...)) {
			t.Error(n, l, e)
		}
	}
	for _, u := range samples() {
		if l, e := Unlist(listed(2, u, u)); e != api.OK || !slices.Equal(l, []api.Update{u, u}) {
			t.Error(u, l, e)
		}
	}
}

func TestUnlistRefuses(t *testing.T) {
	refused := func(what string, b []byte) {
		t.Helper()
		if l, e := Unlist(b); l != nil || e != api.ErrBytes {
			t.Error(what, len(b), l, e)
		}
	}
	refused("nil", nil)
	refused("no bytes", []byte{})
	for n := range 33 {
		b := listed(n, many(n)...)
		for size := range b {
			refused("some bytes fewer", b[:size])
		}
		for more := 1; more < 15; more++ {
			refused("noughts behind", append(slices.Clone(b), make([]byte, more)...))
			refused("bytes behind", append(slices.Clone(b), varied(more, 3)...))
		}
		for count := range 256 {
			if count != n {
				refused("another count", listed(count, many(n)...))
			}
		}
	}
	for n := 33; n < 256; n++ {
		refused("too many", listed(n, many(n)...))
		refused("too many of noughts", listed(n, make([]api.Update, n)...))
	}
	// As many as a count of one byte would have to be, if it went round.
	refused("256 more than the count", listed(0, make([]api.Update, 256)...))
	refused("256 more than the count", listed(5, make([]api.Update, 261)...))
	for _, u := range []api.Update{update(10, 0, 0, 1, 8, 5), update(0, 0, 0, 0, 33, 0), update(0, 0, 0, 1, 31, 255), update(255, 255, 255, 255, 255, 255)} {
		for _, n := range []int{1, 2, 3, 31, 32, 33} {
			for at := range n {
				l := many(n)
				l[at] = u
				refused("one that may not be", listed(n, l...))
			}
		}
	}
}

func TestUnlistIsNew(t *testing.T) {
	b := append(listed(3, many(3)...), 9, 9)
	l, e := Unlist(b[:19])
	if e != api.OK {
		t.Fatal(e)
	}
	_ = append(l, api.Update{})
	clear(l)
	if !slices.Equal(b, append(listed(3, many(3)...), 9, 9)) {
		t.Error("what is handed in was changed: ", b)
	}
	l, _ = Unlist(b[:19])
	again, _ := Unlist(b[:19])
	clear(b)
	clear(again)
	if !slices.Equal(l, many(3)) {
		t.Error("what is told hangs on what was handed in, or on what was told: ", l)
	}
}

// P5.3

func TestText(t *testing.T) {
	for _, x := range []struct {
		u    api.Update
		want string
	}{
		{update(10, 0, 0, 0, 8, 5), "10.0.0.0/8 5"},
		{update(10, 1, 0, 0, 16, 255), "10.1.0.0/16 255"},
		{api.Update{}, "0.0.0.0/0 0"},
		{update(255, 255, 255, 255, 32, 100), "255.255.255.255/32 100"},
	} {
		if s, e := Text(x.u); e != api.OK || s != x.want {
			t.Errorf("Text(%v) = %q, %v", x.u, s, e)
		}
	}
	for _, u := range samples() {
		if s, e := Text(u); e != api.OK || s != told(u) {
			t.Errorf("Text(%v) = %q, %v", u, s, e)
		}
	}
	for _, u := range wrong() {
		if s, e := Text(u); s != "" || e != api.ErrArg {
			t.Errorf("Text(%v) = %q, %v", u, s, e)
		}
	}
}

func TestUntext(t *testing.T) {
	for s, want := range map[string]api.Update{
		"10.0.0.0/8 5":           update(10, 0, 0, 0, 8, 5),
		"0.0.0.0/0 0":            {},
		"0.0.0.0/32 1":           update(0, 0, 0, 0, 32, 1),
		"255.255.255.255/32 255": update(255, 255, 255, 255, 32, 255),
		"128.0.0.0/1 254":        update(128, 0, 0, 0, 1, 254),
		"1.2.3.4/32 10":          update(1, 2, 3, 4, 32, 10),
	} {
		if u, e := Untext(s); e != api.OK || u != want {
			t.Errorf("Untext(%q) = %v, %v", s, u, e)
		}
	}
	for _, u := range samples() {
		if got, e := Untext(told(u)); e != api.OK || got != u {
			t.Errorf("Untext(%q) = %v, %v", told(u), got, e)
		}
	}
}

// refusedTexts asks that none of them is an update's.
func refusedTexts(t *testing.T, l ...string) {
	t.Helper()
	for _, s := range l {
		if u, e := Untext(s); u != (api.Update{}) || e != api.ErrBytes {
			t.Errorf("Untext(%q) = %v, %v", s, u, e)
		}
	}
}

func TestUntextRefuses(t *testing.T) {
	refusedTexts(t, "", " ", "  ", "5", " 5", "10.0.0.0/8", "10.0.0.0/8 ", "10.0.0.0/85", "0.0.0.0/0", "0.0.0.0/0 ", "/ 5", "/0 0", "0 0")
	for _, p := range []string{"10.0.0.0/8", "0.0.0.0/0", "1.2.3.4/32"} {
		for _, d := range []string{"0", "5", "255"} {
			refusedTexts(t, p+d, p+"  "+d, " "+p+" "+d, p+" "+d+" ", p+" "+d+" "+d, p+"\t"+d, p+"\n"+d, p+"\u00a0"+d, p+" "+d+"\n", p+","+d, p+" \t"+d)
			refusedTexts(t, p+" 0"+d, p+" 00"+d, p+" +"+d, p+" -"+d, p+" "+d+".", p+" "+d+".0", p+" "+d+"e0", p+" 0x"+d, p+" _"+d, p+" "+d+"_0", p+" "+d+"a", p+" '"+d, p+" "+d+"\x00")
			refusedTexts(t, d+" "+p, strings.Replace(p, "/", " /", 1)+" "+d, strings.Replace(p, "/", "/ ", 1)+" "+d, strings.Replace(p, ".", " .", 1)+" "+d)
		}
		refusedTexts(t, p+" 256", p+" -1", p+" -0", p+" 1000", p+" 257", p+" 511", p+" 512", p+" x", p+" a5", p+" ff", p+" \u0665", p+" \xff", p+" 00", p+" 01", p+" 000")
		// Numbers that would go round.
		refusedTexts(t, p+" 65536", p+" 4294967296", p+" 4294967301", p+" 9223372036854775807", p+" 9223372036854775808", p+" 18446744073709551616", p+" 18446744073709551621", p+" -9223372036854775808", p+" 1"+strings.Repeat("0", 5000))
	}
	for _, p := range []string{"10.0.0.1/8", "10.1.0.0/15", "0.0.0.1/0", "0.0.0.0/33", "0.0.0.0/-1", "0.0.0.0/00", "10.0.0.0/08", "10.0.0.0/+8", "10.0.0.0", "10.0.0.0/", "10.0.0/8", "10.0.0.0.0/8", "010.0.0.0/8", "256.0.0.0/8", "10.0.0.0/8/8", "0.0.0.0/x", "a.0.0.0/8", "", "."} {
		refusedTexts(t, p+" 5", p+" 0", p+" 255", p+" 256", p)
	}
}

// TestUntextOfAllNumbers: only a text that would be told is read.
func TestUntextOfAllNumbers(t *testing.T) {
	for n := -300; n < 70000; n++ {
		s := fmt.Sprintf("10.0.0.0/8 %d", n)
		u, e := Untext(s)
		if may := n >= 0 && n < 256; may && (e != api.OK || u != update(10, 0, 0, 0, 8, n)) || !may && (e != api.ErrBytes || u != api.Update{}) {
			t.Fatalf("Untext(%q) = %v, %v", s, u, e)
		}
	}
}

func TestFar(t *testing.T) {
	for _, x := range []struct{ d, cost, want int }{
		{250, 9, 255}, {3, 4, 7}, {0, 1, 1}, {0, 50, 50}, {1, 50, 51}, {253, 1, 254}, {254, 1, 255}, {255, 1, 255}, {255, 50, 255}, {254, 50, 255},
		{204, 50, 254}, {205, 50, 255}, {206, 50, 255}, {205, 49, 254}, {206, 49, 255}, {207, 49, 255},
		{-1, 1, 255}, {-1, 2, 255}, {-50, 50, 255}, {256, 1, 255}, {3, 0, 255}, {0, 0, 255}, {3, 51, 255}, {0, 51, 255}, {3, -1, 255}, {-1, -1, 255}, {60, -50, 255},
	} {
		if got := Far(x.d, x.cost); got != x.want {
			t.Errorf("Far(%d, %d) = %d, want %d", x.d, x.cost, got, x.want)
		}
	}
	for d := -300; d < 600; d++ {
		for cost := -100; cost < 400; cost++ {
			want := 255
			if d >= 0 && cost > 0 && cost < 51 && d+cost < 255 {
				want = d + cost
			}
			if got := Far(d, cost); got != want {
				t.Fatalf("Far(%d, %d) = %d, want %d", d, cost, got, want)
			}
		}
	}
	far := []int{math.MinInt, math.MinInt + 1, -1 << 32, 1 << 32, 1<<32 + 1, math.MaxInt - 1, math.MaxInt}
	for _, x := range far { // a sum of them would go round
		for _, y := range append(far, -1, 0, 1, 3, 50, 51, 254, 255, 256) {
			if Far(x, y) != 255 || Far(y, x) != 255 {
				t.Errorf("Far(%d, %d) = %d, the other way %d", x, y, Far(x, y), Far(y, x))
			}
		}
	}
}

// P5.4

func TestUpdatesAreReadAsTold(t *testing.T) {
	for _, u := range samples() {
		b, e := Bytes(u)
		if got, f := Of(b); e != api.OK || f != api.OK || got != u {
			t.Error("bytes: ", u, b, e, got, f)
		}
		s, e := Text(u)
		if got, f := Untext(s); e != api.OK || f != api.OK || got != u {
			t.Error("text: ", u, s, e, got, f)
		}
	}
}

func TestListsAreReadAsTold(t *testing.T) {
	all := samples()
	for n := range 33 {
		for at := 0; at+n < len(all); at += 101 {
			b, e := List(all[at : at+n]...)
			if got, f := Unlist(b); e != api.OK || f != api.OK || !slices.Equal(got, all[at:at+n]) {
				t.Fatal(n, at, b, e, got, f)
			}
		}
	}
}

// TestWhateverComesIn: no bytes make a call panic, and those that are read are just those that would be told.
func TestWhateverComesIn(t *testing.T) {
	good := listed(4, many(4)...)
	read := 0
	for seed := range uint32(60000) {
		b := varied(int(seed%30), seed)
		if seed%2 == 0 { // one byte of a good one is another one
			b = slices.Clone(good)
			b[int(seed/2)%len(b)] = byte(seed / 50)
		}
		kept := slices.Clone(b)
		if l, e := Unlist(b); e == api.OK {
			read++
			if again, f := List(l...); f != api.OK || !bytes.Equal(again, b) {
				t.Fatalf("Unlist(%v) = %v", b, l)
			}
		} else if e != api.ErrBytes || l != nil {
			t.Fatalf("Unlist(%v) = %v, %v", b, l, e)
		}
		part := b[len(b)/2:][:min(6, len(b)-len(b)/2)]
		if u, e := Of(part); e == api.OK && !bytes.Equal(spelt(u), part) || e != api.OK && (e != api.ErrBytes || u != api.Update{}) {
			t.Fatalf("Of(%v) = %v, %v", part, u, e)
		}
		if u, e := Untext(string(b)); e != api.ErrBytes || u != (api.Update{}) {
			t.Fatalf("Untext(%q) = %v, %v", b, u, e)
		}
		if !bytes.Equal(b, kept) {
			t.Fatalf("what is handed in was changed: %v", kept)
		}
	}
	if read == 0 {
		t.Error("nothing was read")
	}
}

// TestTextsAreReadAsTold: of a good text each byte may be another one, be gone, or stand twice; what is read then is told so, too.
func TestTextsAreReadAsTold(t *testing.T) {
	try := func(s string) {
		t.Helper()
		if u, e := Untext(s); e == api.OK && told(u) != s || e != api.OK && (e != api.ErrBytes || u != api.Update{}) {
			t.Errorf("Untext(%q) = %v, %v", s, u, e)
		}
	}
	for _, good := range []string{"10.0.0.0/8 5", "192.168.128.0/17 255", "0.0.0.0/0 0", "1.2.3.4/32 100"} {
		for i := range len(good) {
			try(good[:i] + good[i+1:])
			try(good[:i+1] + good[i:])
			for c := range 256 {
				try(good[:i] + string([]byte{byte(c)}) + good[i+1:])
				try(good[:i] + string([]byte{byte(c)}) + good[i:])
			}
		}
	}
}

func TestFarIsAboveOrInfinite(t *testing.T) {
	for d := range 256 {
		last := d
		for cost := 1; cost <= 50; cost++ {
			n := Far(d, cost)
			if n <= d && n != 255 || n > 255 {
				t.Fatalf("Far(%d, %d) = %d", d, cost, n)
			}
			if n < last || n == last && n != 255 {
				t.Fatalf("Far(%d, %d) = %d is not above %d", d, cost, n, last)
			}
			last = n
		}
	}
	for _, d := range wrongDistances() {
		for cost := -2; cost < 60; cost++ {
			if n := Far(d, cost); n != 255 {
				t.Fatalf("Far(%d, %d) = %d", d, cost, n)
			}
		}
	}
}
