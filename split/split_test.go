package split

import (
	"math"
	"math/big"
	"math/rand"
	"slices"
	"testing"

	"guidepost/api"
)

// ways are of those Distances, at Ports from 0 on.
func ways(distances ...int) []api.Next {
	var l []api.Next
	for i, d := range distances {
		l = append(l, api.Next{Port: i, Distance: d})
	}
	return l
}

// at are ways of one Distance, at those Ports.
func at(distance int, ports ...int) []api.Next {
	var l []api.Next
	for _, n := range ports {
		l = append(l, api.Next{Port: n, Distance: distance})
	}
	return l
}

// mayBe asks in another way than the program's: of each Port by itself how many ways are there, and of each two which one is ahead.
func mayBe(l []api.Next) bool {
	for i, x := range l {
		if x.Port < 0 || x.Port > 7 || x.Distance < 0 || x.Distance > 254 {
			return false
		}
		for _, y := range l[:i] {
			if y.Port >= x.Port {
				return false
			}
		}
	}
	return len(l) > 0 && len(l) < 9
}

// weigh looks for the greatest weight that is not too great.
func weigh(distance int) int64 {
	var n int64
	for bit := int64(1 << 20); bit > 0; bit /= 2 {
		if (n+bit)*int64(distance+1) <= 65536 {
			n += bit
		}
	}
	return n
}

// dealt are the shares, worked out in another way than the program's: with fractions, what is left being dealt one by one, each to who lacks most.
func dealt(l []api.Next) []int {
	var sum int64
	for _, n := range l {
		sum += weigh(n.Distance)
	}
	shares, lacks := make([]int, len(l)), make([]*big.Rat, len(l))
	left := 256
	for i, n := range l {
		due := big.NewRat(256*weigh(n.Distance), sum)
		whole := new(big.Int).Quo(due.Num(), due.Denom())
		lacks[i] = due.Sub(due, new(big.Rat).SetInt(whole))
		shares[i] = int(whole.Int64())
		left -= shares[i]
	}
	for ; left > 0; left-- {
		most := 0
		for i := range lacks {
			if lacks[i].Cmp(lacks[most]) > 0 {
				most = i
			}
		}
		shares[most]++
		lacks[most] = big.NewRat(-1, 1)
	}
	return shares
}

// laid are the buckets, one way's behind the other's.
func laid(l []api.Next, shares []int) [256]int {
	var b []int
	for i, n := range l {
		b = append(b, slices.Repeat([]int{n.Port}, shares[i])...)
	}
	return [256]int(b)
}

// follows fails unless shares are what P13.3 asks.
func follows(t *testing.T, l []api.Next, shares []int) {
	t.Helper()
	sum := 0
	for i, x := range l {
		sum += shares[i]
		for k, y := range l {
			if shares[i] < 0 || x.Distance < y.Distance && shares[i] < shares[k] {
				t.Fatalf("%v: %v: a nearer way has less", l, shares)
			}
		}
	}
	if sum != 256 {
		t.Fatalf("%v: %v: %d together", l, shares, sum)
	}
}

// held fails unless all that is answered of ways that may be is as it has to be.
func held(t *testing.T, l []api.Next, want []int) {
	t.Helper()
	if !May(l...) {
		t.Fatalf("%v: may be", l)
	}
	shares, e := Shares(l...)
	if e != api.OK || !slices.Equal(shares, want) {
		t.Fatalf("Shares(%v) = %v, %v, want %v", l, shares, e, want)
	}
	follows(t, l, shares)
	if b, e := Buckets(l...); e != api.OK || b != laid(l, want) {
		t.Fatalf("Buckets(%v) = %v, %v, want %v", l, b, e, want)
	}
}

// refused fails unless ways are refused as ways that may not be.
func refused(t *testing.T, l []api.Next) {
	t.Helper()
	if May(l...) {
		t.Fatalf("%v: may not be", l)
	}
	if shares, e := Shares(l...); e != api.ErrArg || shares != nil {
		t.Fatalf("Shares(%v) = %v, %v", l, shares, e)
	}
	if b, e := Buckets(l...); e != api.ErrArg || b != [256]int{} {
		t.Fatalf("Buckets(%v) = %v, %v", l, b, e)
	}
}

// asked holds ways against the model, whether they may be or not.
func asked(t *testing.T, l []api.Next) {
	t.Helper()
	if mayBe(l) {
		held(t, l, dealt(l))
	} else {
		refused(t, l)
	}
}

// P13.1

func TestMay(t *testing.T) {
	for i, x := range []struct {
		l    []api.Next
		want bool
	}{
		{nil, false}, {[]api.Next{}, false}, {make([]api.Next, 0, 9), false},
		{ways(0), true}, {ways(0, 0), true}, {ways(0, 0, 0, 0, 0, 0, 0, 0), true}, {ways(0, 0, 0, 0, 0, 0, 0, 0, 0), false}, {make([]api.Next, 9), false}, {make([]api.Next, 1000), false},
		{at(3, -1), false}, {at(3, 0), true}, {at(3, 1), true}, {at(3, 7), true}, {at(3, 8), false}, {at(3, 9), false},
		{at(3, math.MinInt), false}, {at(3, math.MaxInt), false}, {at(3, 1<<32), false}, {at(3, 256), false}, {at(3, -256), false},
		{ways(-1), false}, {ways(1), true}, {ways(253), true}, {ways(254), true}, {ways(255), false}, {ways(256), false},
		{ways(math.MinInt), false}, {ways(math.MaxInt), false}, {ways(1 << 32), false}, {ways(-2), false}, {ways(65535), false}, {ways(65536), false},
		{at(0, 0, 1), true}, {at(0, 0, 7), true}, {at(0, 6, 7), true}, {at(0, 7, 7), false}, {at(0, 0, 0), false}, {at(0, 7, 6), false}, {at(0, 1, 0), false}, {at(0, 0, -1), false}, {at(0, -1, 0), false}, {at(0, 7, 8), false}, {at(0, 8, 7), false},
		{at(0, 0, 2, 1), false}, {at(0, 1, 0, 2), false}, {at(0, 0, 1, 1), false}, {at(0, 0, 0, 1), false}, {at(0, 1, 2, 1), false}, {at(0, 2, 1, 3), false},
		{at(254, 0, 1, 2, 3, 4, 5, 6, 7), true}, {at(0, 0, 1, 2, 3, 4, 5, 6, 6), false}, {at(0, 0, 1, 2, 3, 4, 5, 6, 8), false}, {at(0, 0, 1, 2, 3, 4, 5, 7, 6), false}, {at(0, 1, 2, 3, 4, 5, 6, 7, 8), false}, {at(0, -1, 0, 1, 2, 3, 4, 5, 6), false}, {at(0, -1, 0, 1, 2, 3, 4, 5, 6, 7), false},
	} {
		if May(x.l...) != x.want || mayBe(x.l) != x.want {
			t.Errorf("%d: May(%v) is not %v", i, x.l, x.want)
		}
		asked(t, x.l)
	}
}

// TestMayOfEachFault lays a fault at each place of lists of each length.
func TestMayOfEachFault(t *testing.T) {
	for size := 1; size <= api.MaxPorts; size++ {
		for place := range size {
			for _, distance := range []int{math.MinInt, -2, -1, 0, 1, 253, 254, 255, 256, 65536, math.MaxInt} {
				l := ways(make([]int, size)...)
				l[place].Distance = distance
				asked(t, l)
			}
			for _, port := range []int{math.MinInt, -1, 0, 1, 2, 3, 4, 5, 6, 7, 8, math.MaxInt} {
				l := ways(make([]int, size)...)
				l[place].Port = port
				asked(t, l)
			}
		}
	}
}

// TestMayOfAllShortLists goes over all lists of up to three ways, of Ports and Distances at both ends and just beyond.
func TestMayOfAllShortLists(t *testing.T) {
	var all []api.Next
	for _, port := range []int{-1, 0, 1, 6, 7, 8} {
		for _, distance := range []int{-1, 0, 254, 255} {
			all = append(all, api.Next{Port: port, Distance: distance})
		}
	}
	for _, x := range all {
		asked(t, []api.Next{x})
		for _, y := range all {
			asked(t, []api.Next{x, y})
			for _, z := range all {
				asked(t, []api.Next{x, y, z})
			}
		}
	}
}

func TestWeight(t *testing.T) {
	for _, x := range [][2]int{
		{0, 65536}, {1, 32768}, {2, 21845}, {3, 16384}, {4, 13107}, {5, 10922}, {6, 9362}, {7, 8192}, {15, 4096}, {63, 1024}, {127, 512}, {253, 258}, {254, 257},
		{255, 0}, {256, 0}, {-1, 0}, {-2, 0}, {65535, 0}, {65536, 0}, {-65536, 0}, {math.MinInt, 0}, {math.MaxInt, 0}, {1 << 32, 0}, {-1 << 32, 0},
	} {
		if n := Weight(api.Next{Distance: x[0]}); n != x[1] {
			t.Errorf("Weight(at %d) = %d, want %d", x[0], n, x[1])
		}
	}
	for distance := -300; distance < 600; distance++ {
		want := 0
		if distance >= 0 && distance < 255 {
			want = int(weigh(distance))
		}
		// The Port makes no difference, not even one that may not be.
		for _, port := range []int{math.MinInt, -1, 0, 1, 7, 8, math.MaxInt} {
			if n := Weight(api.Next{Port: port, Distance: distance}); n != want {
				t.Fatalf("Weight(port %d at %d) = %d, want %d", port, distance, n, want)
			}
		}
	}
}

func TestShares(t *testing.T) {
	for _, x := range []struct {
		l    []api.Next
		want []int
	}{
		{at(7, 3), []int{256}}, {ways(0), []int{256}}, {ways(254), []int{256}}, {at(254, 7), []int{256}},
		// All alike: the greatest sums, and the least.
		{ways(0, 0), []int{128, 128}}, {ways(0, 0, 0), []int{86, 85, 85}}, {ways(0, 0, 0, 0), []int{64, 64, 64, 64}}, {ways(0, 0, 0, 0, 0), []int{52, 51, 51, 51, 51}},
		{ways(0, 0, 0, 0, 0, 0), []int{43, 43, 43, 43, 42, 42}}, {ways(0, 0, 0, 0, 0, 0, 0), []int{37, 37, 37, 37, 36, 36, 36}}, {ways(0, 0, 0, 0, 0, 0, 0, 0), []int{32, 32, 32, 32, 32, 32, 32, 32}},
		{ways(254, 254), []int{128, 128}}, {ways(254, 254, 254), []int{86, 85, 85}}, {ways(254, 254, 254, 254), []int{64, 64, 64, 64}}, {ways(254, 254, 254, 254, 254), []int{52, 51, 51, 51, 51}},
		{ways(254, 254, 254, 254, 254, 254), []int{43, 43, 43, 43, 42, 42}}, {ways(254, 254, 254, 254, 254, 254, 254), []int{37, 37, 37, 37, 36, 36, 36}}, {ways(254, 254, 254, 254, 254, 254, 254, 254), []int{32, 32, 32, 32, 32, 32, 32, 32}},
		{at(9, 1, 4, 7), []int{86, 85, 85}},
		// All but one, at each end and in the middle.
		{ways(0, 0, 1), []int{103, 102, 51}}, {ways(1, 0, 0), []int{51, 103, 102}}, {ways(0, 1, 0), []int{103, 51, 102}},
		{ways(3, 1), []int{85, 171}}, {ways(1, 3), []int{171, 85}},
		// Nothing is left, of ways that are all others.
		{ways(179, 139), []int{112, 144}}, {ways(218, 202, 76), []int{52, 56, 148}}, {ways(91, 185, 104, 181), []int{89, 44, 78, 45}},
		// One each for all but one.
		{ways(41, 56), []int{147, 109}}, {ways(11, 54, 26), []int{154, 34, 68}}, {ways(49, 35, 34, 34), []int{49, 68, 70, 69}}, {ways(34, 39, 24, 46, 54), []int{55, 48, 77, 41, 35}},
		{ways(16, 22, 15, 29, 23, 36), []int{56, 42, 60, 32, 40, 26}}, {ways(41, 48, 54, 21, 7, 27, 43), []int{21, 18, 16, 40, 110, 31, 20}}, {ways(59, 6, 28, 29, 44, 8, 11, 31), []int{9, 77, 18, 18, 12, 60, 45, 17}},
		// Remainders that are one, of nearer and of farther ways, of which the lesser Port has it.
		{ways(37, 201), []int{216, 40}}, {ways(201, 37), []int{41, 215}}, {at(37, 6), []int{256}}, {[]api.Next{{Port: 5, Distance: 201}, {Port: 6, Distance: 37}}, []int{41, 215}},
		{ways(3, 0, 3), []int{43, 171, 42}}, {ways(3, 3, 0), []int{43, 43, 170}}, {ways(0, 3, 3), []int{171, 43, 42}}, {ways(26, 3, 11), []int{26, 173, 57}}, {ways(28, 8, 19), []int{45, 146, 65}},
		{ways(15, 27, 24, 21, 7, 24), []int{46, 26, 30, 33, 92, 29}}, {ways(20, 23, 18, 8, 5, 6, 1), []int{12, 10, 13, 27, 40, 34, 120}}, {ways(26, 20, 25, 26, 10, 27, 9), []int{25, 32, 25, 24, 60, 24, 66}},
		// Shares that are 0, and those that are 1 by a remainder alone.
		{ways(254, 0), []int{1, 255}}, {ways(0, 254), []int{255, 1}}, {ways(254, 0, 0), []int{0, 128, 128}}, {ways(254, 0, 0, 0), []int{1, 85, 85, 85}}, {ways(254, 0, 0, 0, 0), []int{0, 64, 64, 64, 64}},
		{ways(0, 0, 254, 0, 0), []int{64, 64, 0, 64, 64}}, {ways(0, 0, 0, 0, 254), []int{64, 64, 64, 64, 0}}, {ways(254, 0, 0, 0, 0, 0), []int{1, 51, 51, 51, 51, 51}},
		{ways(254, 0, 0, 0, 0, 0, 0), []int{0, 43, 43, 43, 43, 42, 42}}, {ways(254, 0, 0, 0, 0, 0, 0, 0), []int{0, 37, 37, 37, 37, 36, 36, 36}},
	} {
		held(t, x.l, x.want)
		if got := dealt(x.l); !slices.Equal(got, x.want) {
			t.Errorf("the model: %v: %v, want %v", x.l, got, x.want)
		}
	}
}

// TestSharesOfAllPairs goes over all Distances of two ways.
func TestSharesOfAllPairs(t *testing.T) {
	for x := range api.Infinite {
		for y := range api.Infinite {
			l := ways(x, y)
			held(t, l, dealt(l))
		}
	}
}

// TestSharesOfAllRows goes over all rows of up to eight ways of Distances next to each other, and at both ends.
func TestSharesOfAllRows(t *testing.T) {
	for _, distances := range [][]int{{0, 1}, {0, 254}, {253, 254}, {3, 0, 7}} {
		var grow func(l []int)
		grow = func(l []int) {
			if len(l) > 0 {
				held(t, ways(l...), dealt(ways(l...)))
			}
			if len(l) == api.MaxPorts || len(distances) > 2 && len(l) == 6 {
				return
			}
			for _, d := range distances {
				grow(append(slices.Clone(l), d))
			}
		}
		grow(nil)
	}
}

// chance are ways that may be: of any Ports, of Distances below a bound.
func chance(r *rand.Rand) []api.Next {
	bound := []int{2, 5, 30, 100, 255}[r.Intn(5)]
	ports := r.Perm(api.MaxPorts)[:1+r.Intn(api.MaxPorts)]
	slices.Sort(ports)
	l := at(0, ports...)
	for i := range l {
		l[i].Distance = r.Intn(bound)
	}
	return l
}

func TestSharesOfManyWays(t *testing.T) {
	r := rand.New(rand.NewSource(13))
	for range 30000 {
		l := chance(r)
		held(t, l, dealt(l))
	}
}

func TestBuckets(t *testing.T) {
	for _, x := range []struct {
		l []api.Next
		// ends are where the buckets of each Port end.
		ends [][2]int
	}{
		{at(7, 3), [][2]int{{3, 256}}}, {at(7, 0), [][2]int{{0, 256}}}, {at(254, 7), [][2]int{{7, 256}}},
		{ways(0, 0, 1), [][2]int{{0, 103}, {1, 205}, {2, 256}}},
		{[]api.Next{{Port: 1, Distance: 254}, {Port: 4}}, [][2]int{{1, 1}, {4, 256}}},
		{[]api.Next{{Port: 1}, {Port: 4, Distance: 254}}, [][2]int{{1, 255}, {4, 256}}},
		{[]api.Next{{Port: 2}, {Port: 3}, {Port: 5, Distance: 254}, {Port: 6}, {Port: 7}}, [][2]int{{2, 64}, {3, 128}, {6, 192}, {7, 256}}},
		{at(254, 0, 1, 2, 3, 4, 5, 6, 7), [][2]int{{0, 32}, {1, 64}, {2, 96}, {3, 128}, {4, 160}, {5, 192}, {6, 224}, {7, 256}}},
	} {
		b, e := Buckets(x.l...)
		if e != api.OK {
			t.Error(x.l, e)
		}
		from := 0
		for _, end := range x.ends {
			for i := from; i < end[1]; i++ {
				if b[i] != end[0] {
					t.Errorf("%v: bucket %d: %d, want %d", x.l, i, b[i], end[0])
				}
			}
			from = end[1]
		}
	}
}

// P13.2

func TestPick(t *testing.T) {
	var b [api.Buckets]int
	for i := range b {
		b[i] = 1000 - i
	}
	for _, x := range []struct {
		hash uint32
		want int
	}{
		{0, 1000}, {1, 999}, {127, 873}, {128, 872}, {254, 746}, {255, 745}, {256, 1000}, {257, 999}, {511, 745}, {512, 1000}, {65535, 745}, {65536, 1000},
		{math.MaxInt32, 745}, {math.MaxInt32 + 1, 1000}, {math.MaxUint32 - 1, 746}, {math.MaxUint32, 745}, {0x12345600, 1000}, {0xff000001, 999}, {0x00ffff80, 872},
	} {
		if n := Pick(b, x.hash); n != x.want {
			t.Errorf("Pick(%d) = %d, want %d", x.hash, n, x.want)
		}
	}
	for hash := range uint32(5000) {
		if n := Pick(b, hash*858993); n != 1000-int(hash*858993&255) {
			t.Fatal(hash, n)
		}
	}
}

// TestPickOfBucketsThatNoWaysHave: they are none of Buckets, but each still has what stands in it.
func TestPickOfBucketsThatNoWaysHave(t *testing.T) {
	if n := Pick([api.Buckets]int{}, 77); n != 0 {
		t.Error(n)
	}
	b := [api.Buckets]int{0: -1, 1: 8, 2: math.MinInt, 3: math.MaxInt, 4: 7, 5: 0, 6: 7, 255: 9}
	for hash, want := range map[uint32]int{0: -1, 1: 8, 2: math.MinInt, 3: math.MaxInt, 4: 7, 5: 0, 6: 7, 7: 0, 254: 0, 255: 9, 256: -1, math.MaxUint32: 9} {
		if n := Pick(b, hash); n != want {
			t.Errorf("Pick(%d) = %d, want %d", hash, n, want)
		}
	}
}

func TestPickGoesByShares(t *testing.T) {
	l := []api.Next{{Port: 1, Distance: 4}, {Port: 5}, {Port: 6, Distance: 200}, {Port: 7, Distance: 4}}
	shares, _ := Shares(l...)
	b, _ := Buckets(l...)
	picked := map[int]int{}
	for hash := range uint32(1 << 16) {
		picked[Pick(b, hash)]++
	}
	for i, n := range l {
		if picked[n.Port] != shares[i]<<8 {
			t.Errorf("port %d: %d of 65536, where its share is %d", n.Port, picked[n.Port], shares[i])
		}
	}
}

// P13.3 is asked of all ways above: by held, and by follows.

func TestFollowsOfEachDistance(t *testing.T) {
	r := rand.New(rand.NewSource(133))
	for range 30000 {
		l := chance(r)
		shares, e := Shares(l...)
		if e != api.OK || len(shares) != len(l) {
			t.Fatal(l, shares, e)
		}
		follows(t, l, shares)
		var counts [api.MaxPorts]int
		b, _ := Buckets(l...)
		for i, port := range b {
			counts[port]++
			if i > 0 && b[i-1] > port {
				t.Fatalf("%v: buckets fall at %d", l, i)
			}
		}
		for i, n := range l {
			if counts[n.Port] != shares[i] {
				t.Fatalf("%v: port %d has %d buckets, and %v", l, n.Port, counts[n.Port], shares)
			}
		}
	}
}

// Rules for all layers.

func TestWaysAreNotChangedAndNothingIsShared(t *testing.T) {
	r := rand.New(rand.NewSource(131))
	for range 2000 {
		l := chance(r)
		if r.Intn(4) == 0 {
			l[r.Intn(len(l))].Distance = 255
		}
		// What stands behind the ways is the caller's, too.
		behind := append(slices.Clone(l), api.Next{Port: 9, Distance: 9}, api.Next{Port: 8, Distance: 8})
		was := slices.Clone(behind)
		handed := behind[:len(l)]
		May(handed...)
		first, e := Shares(handed...)
		want := slices.Clone(first)
		for i := range first {
			first[i] = -1
		}
		_ = append(first, -1, -1)
		b, _ := Buckets(handed...)
		kept := b
		for i := range b {
			b[i] = -1
		}
		second, again := Shares(handed...)
		if e != again || !slices.Equal(second, want) {
			t.Fatalf("%v: %v, %v, then %v, %v", l, want, e, second, again)
		}
		if c, _ := Buckets(handed...); c != kept {
			t.Fatalf("%v: other buckets", l)
		}
		if !slices.Equal(behind, was) {
			t.Fatalf("%v: changed to %v", was, behind)
		}
		// What was answered stays, when the caller writes over what it had handed in.
		for i := range behind {
			behind[i] = api.Next{Port: -7, Distance: -7}
		}
		if !slices.Equal(second, want) {
			t.Fatalf("%v: %v changed to %v", l, want, second)
		}
	}
}
