package expert

import (
	"math"
	"math/big"
	"slices"
	"testing"

	"aviary/api"
	"aviary/curve"
	"aviary/norm"
	"aviary/pick"
	"aviary/vec"
)

const (
	least = math.MinInt64
	most  = math.MaxInt64
	high  = int64(api.MaxNum)
	low   = int64(api.MinNum)
)

// mixed is numbers of all sizes, the same ones each time for a seed.
func mixed(count int, seed uint64) []int64 {
	list := make([]int64, count)
	state := 88172645463325252 ^ seed<<7
	for i := range list {
		state ^= state << 13
		state ^= state >> 7
		state ^= state << 17
		list[i] = int64(state) >> (state % 61)
	}
	return list
}

// ordinary is numbers from -4 to 4, with 16 bits behind the point, the same ones each time for a seed.
func ordinary(count int, seed uint64) []int64 {
	list := mixed(count, seed)
	for i := range list {
		list[i] %= 4 * api.One
	}
	return list
}

// weights is weights of all sizes, the same ones each time for a seed.
func weights(count int, seed uint64) []int8 {
	list := make([]int8, count)
	for i, n := range mixed(count, seed) {
		list[i] = int8(n)
	}
	return list
}

// networks is so many lists of weights, no two the same.
func networks(experts, count int, seed uint64) [][]int8 {
	list := make([][]int8, experts)
	for i := range list {
		list[i] = weights(count, seed+uint64(i)*100000)
	}
	return list
}

// row is numbers of a seed's kind: ordinary ones mostly, of all sizes now and then.
func row(count int, seed uint64) []int64 {
	if seed%3 == 0 {
		return mixed(count, seed)
	}
	return ordinary(count, seed)
}

// flat is a list of one weight, so often.
func flat(count int, w int8) []int8 {
	return slices.Repeat([]int8{w}, count)
}

// wantOne follows 16.1: Mat, Silu and Mat, one behind the other.
func wantOne(up, down []int8, hidden int, x []int64) ([]int64, api.Errno) {
	inner, e := vec.Mat(up, hidden, x)
	if e != api.OK {
		return nil, e
	}
	var curved []int64
	for _, n := range inner {
		curved = append(curved, curve.Silu(n))
	}
	return vec.Mat(down, len(x), curved)
}

// wantRoute follows 16.2: Top of the scores, and Soft of the scores in that order.
func wantRoute(router []int8, experts, k int, x []int64) ([]int, []int64, api.Errno) {
	if k < 1 {
		return nil, nil, api.ErrRange
	}
	if k > experts {
		return nil, nil, api.ErrRange
	}
	scores, e := vec.Mat(router, experts, x)
	if e != api.OK {
		return nil, nil, e
	}
	var chosen []int64
	for _, place := range pick.Top(scores, k) {
		chosen = append(chosen, scores[place])
	}
	return pick.Top(scores, k), norm.Soft(chosen), api.OK
}

func within(x *big.Int, low, high int64) *big.Int {
	if x.Cmp(big.NewInt(low)) < 0 {
		return big.NewInt(low)
	}
	if x.Cmp(big.NewInt(high)) > 0 {
		return big.NewInt(high)
	}
	return x
}

// together is the sum of products, each sum brought into 64 bits, divided by 65536, to the nearest whole number, a half away from 0, clamped.
func together(shares, numbers []int64) int64 {
	sum := new(big.Int)
	for i, share := range shares {
		sum.Add(sum, new(big.Int).Mul(big.NewInt(share), big.NewInt(numbers[i])))
		sum = within(sum, least, most)
	}
	size := new(big.Int).Abs(sum)
	size.Add(size, big.NewInt(32768)).Rsh(size, 16)
	if sum.Sign() < 0 {
		size.Neg(size)
	}
	return within(size, low, high).Int64()
}

// wantMix follows 16.2 with whole numbers without bounds.
func wantMix(router []int8, ups, downs [][]int8, hidden, k int, x []int64) ([]int64, api.Errno) {
	if len(downs) != len(ups) {
		return nil, api.ErrShape
	}
	if len(ups) == 0 {
		return nil, api.ErrShape
	}
	if len(ups) == 1 {
		return wantOne(ups[0], downs[0], hidden, x)
	}
	places, shares, e := wantRoute(router, len(ups), k, x)
	if e != api.OK {
		return nil, e
	}
	var answers [][]int64
	for _, place := range places {
		answer, e := wantOne(ups[place], downs[place], hidden, x)
		if e != api.OK {
			return nil, e
		}
		answers = append(answers, answer)
	}
	var list []int64
	for place := range x {
		var numbers []int64
		for _, answer := range answers {
			numbers = append(numbers, answer[place])
		}
		list = append(list, together(shares, numbers))
	}
	return list, api.OK
}

// short is a list as it is told in an error: long ones by their first members.
func short[M any](list []M) []M {
	return list[:min(len(list), 8)]
}

// equal is whether an answer is what it must be, with nothing beside an error.
func equal(list, want []int64, e, fault api.Errno) bool {
	return slices.Equal(list, want) && e == fault && (e == api.OK || len(list) == 0)
}

func checkOne(t *testing.T, up, down []int8, hidden int, x, want []int64) {
	t.Helper()
	if list, e := One(up, down, hidden, x); !equal(list, want, e, api.OK) {
		t.Errorf("One(%v, %v, %d, %v): %v, error %d, not %v", short(up), short(down), hidden, short(x), short(list), e, short(want))
	}
}

func refuseOne(t *testing.T, up, down []int8, hidden int, x []int64) {
	t.Helper()
	if list, e := One(up, down, hidden, x); len(list) != 0 || e != api.ErrShape {
		t.Errorf("One(%v, %v, %d, %v): %v, error %d", short(up), short(down), hidden, short(x), short(list), e)
	}
}

// sameOne holds One against Mat, Silu and Mat, errors too.
func sameOne(t *testing.T, up, down []int8, hidden int, x []int64) {
	t.Helper()
	want, fault := wantOne(up, down, hidden, x)
	if list, e := One(up, down, hidden, x); !equal(list, want, e, fault) {
		t.Errorf("One(%v, %v, %d, %v): %v, error %d, not %v, error %d", short(up), short(down), hidden, short(x), short(list), e, short(want), fault)
	}
}

func checkRoute(t *testing.T, router []int8, experts, k int, x []int64, places []int, shares []int64) {
	t.Helper()
	if p, s, e := Route(router, experts, k, x); !slices.Equal(p, places) || !slices.Equal(s, shares) || e != api.OK {
		t.Errorf("Route(%v, %d, %d, %v): %v, %v, error %d, not %v, %v", short(router), experts, k, short(x), short(p), short(s), e, short(places), short(shares))
	}
}

func refuseRoute(t *testing.T, router []int8, experts, k int, x []int64, want api.Errno) {
	t.Helper()
	if p, s, e := Route(router, experts, k, x); len(p) != 0 || len(s) != 0 || e != want {
		t.Errorf("Route(%v, %d, %d, %v): %v, %v, error %d, not %d", short(router), experts, k, short(x), short(p), short(s), e, want)
	}
}

// sameRoute holds Route against Top and Soft of the scores, errors too.
func sameRoute(t *testing.T, router []int8, experts, k int, x []int64) {
	t.Helper()
	places, shares, fault := wantRoute(router, experts, k, x)
	if fault != api.OK {
		refuseRoute(t, router, experts, k, x, fault)
		return
	}
	checkRoute(t, router, experts, k, x, places, shares)
}

func checkMix(t *testing.T, router []int8, ups, downs [][]int8, hidden, k int, x, want []int64) {
	t.Helper()
	if list, e := Mix(router, ups, downs, hidden, k, x); !equal(list, want, e, api.OK) {
		t.Errorf("Mix(%v, %v, %v, %d, %d, %v): %v, error %d, not %v", short(router), short(ups), short(downs), hidden, k, short(x), short(list), e, short(want))
	}
}

func refuseMix(t *testing.T, router []int8, ups, downs [][]int8, hidden, k int, x []int64, want api.Errno) {
	t.Helper()
	if list, e := Mix(router, ups, downs, hidden, k, x); len(list) != 0 || e != want {
		t.Errorf("Mix(%v, %v, %v, %d, %d, %v): %v, error %d, not %d", short(router), short(ups), short(downs), hidden, k, short(x), short(list), e, want)
	}
}

// sameMix holds Mix against the shares and One's numbers, errors too.
func sameMix(t *testing.T, router []int8, ups, downs [][]int8, hidden, k int, x []int64) {
	t.Helper()
	want, fault := wantMix(router, ups, downs, hidden, k, x)
	if fault != api.OK {
		refuseMix(t, router, ups, downs, hidden, k, x, fault)
		return
	}
	checkMix(t, router, ups, downs, hidden, k, x, want)
}

// 16.1: the chapter's example, and answers that are reckoned by hand.
func TestOne(t *testing.T) {
	for _, c := range []struct {
		up, down []int8
		hidden   int
		x, want  []int64
	}{
		{[]int8{64}, []int8{64}, 1, []int64{0}, []int64{0}},
		// Sig of 1 is 47909, so that of -1 it is 17627.
		{[]int8{64}, []int8{64}, 1, []int64{65536}, []int64{47909}},
		{[]int8{64}, []int8{-64}, 1, []int64{65536}, []int64{-47909}},
		{[]int8{-64}, []int8{64}, 1, []int64{65536}, []int64{-17627}},
		{[]int8{64}, []int8{64}, 1, []int64{-65536}, []int64{-17627}},
		{[]int8{0}, []int8{127}, 1, []int64{65536}, []int64{0}},
		{[]int8{127}, []int8{0}, 1, []int64{65536}, []int64{0}},
		// Small numbers are halved by the curve, and rounded behind each of the three.
		{[]int8{64}, []int8{64}, 1, []int64{2}, []int64{1}},
		{[]int8{64}, []int8{127}, 1, []int64{2}, []int64{2}},
		{[]int8{64}, []int8{32}, 1, []int64{2}, []int64{1}},
		{[]int8{64}, []int8{-32}, 1, []int64{2}, []int64{-1}},
		{[]int8{64}, []int8{31}, 1, []int64{2}, []int64{0}},
		{[]int8{32}, []int8{64}, 1, []int64{3}, []int64{1}},
		// One number out of two, and two out of one: up has rows of two, down two rows.
		{[]int8{64, 0}, []int8{64, -64}, 1, []int64{65536, 9}, []int64{47909, -47909}},
		{[]int8{0, 64}, []int8{64, 0}, 1, []int64{9, 65536}, []int64{47909, 0}},
		// Three within, of one number; down has one row of three.
		{[]int8{64, -64, 0}, []int8{64, 64, 127}, 3, []int64{65536}, []int64{47909 - 17627}},
		{[]int8{64, -64, 0}, []int8{64, -64, 127}, 3, []int64{65536}, []int64{65536}},
		// Two of two, crossed: the first row of up sees the second number.
		{[]int8{0, 64, 64, 0}, []int8{64, 0, 0, 64}, 2, []int64{65536, -65536}, []int64{-17627, 47909}},
		{[]int8{64, 0, 0, 64}, []int8{0, 64, 64, 64}, 2, []int64{65536, -65536}, []int64{-17627, 47909 - 17627}},
	} {
		checkOne(t, c.up, c.down, c.hidden, c.x, c.want)
		sameOne(t, c.up, c.down, c.hidden, c.x)
	}
}

// 16.1: networks and rows of all kinds are Mat, Silu and Mat, one behind the other.
func TestOneMixed(t *testing.T) {
	for seed := range uint64(3000) {
		width, hidden := int(seed%9)+1, int(seed/9%9)+1
		up, down, x := weights(width*hidden, seed), weights(width*hidden, seed+9000), row(width, seed+20000)
		want, e := wantOne(up, down, hidden, x)
		if e != api.OK || len(want) != width {
			t.Fatalf("%d numbers, error %d", len(want), e)
		}
		checkOne(t, up, down, hidden, x, want)
	}
}

// 16.1: the smallest and the greatest numbers and weights, in one and in several.
func TestOneEdges(t *testing.T) {
	numbers := []int64{least, least + 1, low - 1, low, low + 1, -65536, -1, 0, 1, 65536, high - 1, high, high + 1, 1<<32 + 1, most - 1, most}
	small := []int8{-128, -127, -64, -1, 0, 1, 64, 127}
	for i, a := range numbers {
		for j, u := range small {
			for l, d := range small {
				sameOne(t, []int8{u}, []int8{d}, 1, []int64{a})
				x := []int64{a, numbers[(i+j)%len(numbers)], numbers[(i*5+l)%len(numbers)]}
				up, down := []int8{u, d, 127, -128, u, u}, []int8{d, u, d, -128, 127, d}
				sameOne(t, up, down, 2, x)
			}
		}
	}
	// What is too great is clamped, not cut off, behind each of the three.
	checkOne(t, []int8{127}, []int8{127}, 1, []int64{most}, []int64{high})
	checkOne(t, []int8{127}, []int8{-128}, 1, []int64{most}, []int64{low})
	checkOne(t, []int8{-128}, []int8{127}, 1, []int64{least}, []int64{high})
	checkOne(t, []int8{-128}, []int8{-128}, 1, []int64{least}, []int64{low})
	checkOne(t, []int8{64}, []int8{64}, 1, []int64{most}, []int64{high})
	checkOne(t, []int8{64}, []int8{-64}, 1, []int64{most}, []int64{-high})
	checkOne(t, []int8{64}, []int8{32}, 1, []int64{1<<32 + 1}, []int64{1 << 30})
	// The greatest number and the least are -1 together, of which half is rounded away from 0.
	checkOne(t, []int8{64, 64}, []int8{64, 64}, 1, []int64{most, least}, []int64{-1, -1})
	// Far below 0 the curve is 0.
	checkOne(t, []int8{64}, []int8{127}, 1, []int64{least}, []int64{0})
	checkOne(t, []int8{-128}, []int8{127}, 1, []int64{most}, []int64{0})
}

// 16.1: long rows, and a great many numbers within.
func TestOneLong(t *testing.T) {
	for _, c := range []struct{ width, hidden int }{{1, 5000}, {5000, 1}, {70, 90}, {1000, 3}} {
		sameOne(t, weights(c.width*c.hidden, 1), weights(c.width*c.hidden, 2), c.hidden, ordinary(c.width, 3))
	}
}

// 16.1: Mat's errors of up, with a down that would be right or is wrong itself.
func TestOneRefusesUp(t *testing.T) {
	for width := 1; width <= 4; width++ {
		x := ordinary(width, 5)
		for hidden := 1; hidden <= 4; hidden++ {
			size := width * hidden
			for _, wrong := range []int{0, 1, size - width, size - 1, size + 1, size + width, 2 * size, 100} {
				if wrong != size {
					refuseOne(t, flat(wrong, 64), flat(size, 64), hidden, x)
					refuseOne(t, flat(wrong, 64), flat(wrong, 64), hidden, x)
				}
			}
			refuseOne(t, nil, flat(size, 64), hidden, x)
			refuseOne(t, flat(size, 64), flat(size, 64), -hidden, x)
			refuseOne(t, flat(size, 64), flat(size, 64), hidden+1, x)
			refuseOne(t, flat(size, 64), flat(size, 64), hidden-1, x)
		}
		for _, hidden := range []int{-1, -2, -width, -1 << 62, math.MinInt, math.MinInt + 1} {
			refuseOne(t, nil, nil, hidden, x)
			refuseOne(t, flat(width, 64), flat(width, 64), hidden, x)
		}
		for _, hidden := range []int{math.MaxInt, 1 << 62, 1 << 61, 1<<62 + 1, 1 << 32} {
			refuseOne(t, nil, nil, hidden, x)
			refuseOne(t, flat(width, 64), flat(width, 64), hidden, x)
			refuseOne(t, flat(4, 64), nil, hidden, x)
		}
	}
	for _, empty := range [][]int64{nil, {}} {
		for _, hidden := range []int{math.MinInt, -1, 0, 1, 2, math.MaxInt} {
			refuseOne(t, nil, nil, hidden, empty)
			refuseOne(t, []int8{}, []int8{64}, hidden, empty)
			refuseOne(t, []int8{64}, []int8{}, hidden, empty)
			refuseOne(t, []int8{64, 64}, []int8{64, 64}, hidden, empty)
		}
	}
}

// 16.1: Mat's errors of down, behind an up that is right; of no numbers within nothing comes that down could be applied to.
func TestOneRefusesDown(t *testing.T) {
	for width := 1; width <= 4; width++ {
		x := ordinary(width, 6)
		for hidden := 1; hidden <= 4; hidden++ {
			size := width * hidden
			for _, wrong := range []int{0, 1, size - hidden, size - width, size - 1, size + 1, size + hidden, size + width, 2 * size, hidden * hidden, 100} {
				if wrong != size {
					refuseOne(t, flat(size, 64), flat(wrong, 64), hidden, x)
				}
			}
			refuseOne(t, flat(size, 64), nil, hidden, x)
			checkOne(t, flat(size, 64), flat(size, 0), hidden, x, make([]int64, width))
		}
		for _, up := range [][]int8{nil, {}} {
			for _, count := range []int{0, 1, width, 2 * width} {
				refuseOne(t, up, flat(count, 64), 0, x)
			}
			refuseOne(t, up, nil, 0, x)
		}
		refuseOne(t, flat(width, 64), flat(width, 64), 0, x)
	}
}

// 16.2: the chapter's example, and routes that are reckoned by hand.
func TestRoute(t *testing.T) {
	e := curve.Exp(-65536)
	small, great := e*65536/(65536+e), 65536*65536/(65536+e)
	for _, c := range []struct {
		router     []int8
		experts, k int
		x          []int64
		places     []int
		shares     []int64
	}{
		{[]int8{32, 64}, 2, 1, []int64{65536}, []int{1}, []int64{65536}},
		{[]int8{64, 32}, 2, 1, []int64{65536}, []int{0}, []int64{65536}},
		{[]int8{32, 64}, 2, 1, []int64{-65536}, []int{0}, []int64{65536}},
		{[]int8{-128}, 1, 1, []int64{65536}, []int{0}, []int64{65536}},
		// The scores 0 and 1: the greater one first.
		{[]int8{0, 64}, 2, 2, []int64{65536}, []int{1, 0}, []int64{great, small}},
		{[]int8{64, 0}, 2, 2, []int64{65536}, []int{0, 1}, []int64{great, small}},
		{[]int8{0, 64}, 2, 2, []int64{-65536}, []int{0, 1}, []int64{great, small}},
		{[]int8{-64, 0, 64}, 3, 2, []int64{65536}, []int{2, 1}, []int64{great, small}},
		{[]int8{0, -64, 64}, 3, 2, []int64{65536}, []int{2, 0}, []int64{great, small}},
		// Shares are of those that are chosen alone: that of the third is not left out of one.
		{[]int8{0, 0, 0, 0}, 4, 1, []int64{9}, []int{0}, []int64{65536}},
		{[]int8{0, 0, 0, 0}, 4, 2, []int64{9}, []int{0, 1}, []int64{32768, 32768}},
		{[]int8{0, 0, 0, 0}, 4, 3, []int64{9}, []int{0, 1, 2}, []int64{21845, 21845, 21845}},
		{[]int8{0, 0, 0, 0}, 4, 4, []int64{9}, []int{0, 1, 2, 3}, []int64{16384, 16384, 16384, 16384}},
		// Two scores that are the same, at the front, at the back, and apart: the lesser place is first.
		{[]int8{64, 64, 0}, 3, 1, []int64{65536}, []int{0}, []int64{65536}},
		{[]int8{64, 64, -128}, 3, 2, []int64{65536}, []int{0, 1}, []int64{32768, 32768}},
		{[]int8{0, 64, 64}, 3, 1, []int64{65536}, []int{1}, []int64{65536}},
		{[]int8{0, 64, 64}, 3, 2, []int64{65536}, []int{1, 2}, []int64{32768, 32768}},
		{[]int8{64, 0, 64}, 3, 2, []int64{65536}, []int{0, 2}, []int64{32768, 32768}},
		{[]int8{0, 64, 0}, 3, 2, []int64{65536}, []int{1, 0}, []int64{great, small}},
		// Rows of two: each expert has its own.
		{[]int8{64, 0, 0, 64}, 2, 2, []int64{0, 65536}, []int{1, 0}, []int64{great, small}},
		{[]int8{64, 64, 0, 64, -64, 0}, 3, 2, []int64{0, 65536}, []int{0, 1}, []int64{32768, 32768}},
		// Scores that are clamped are the same.
		{[]int8{100, 127}, 2, 1, []int64{most}, []int{0}, []int64{65536}},
		{[]int8{100, 127}, 2, 2, []int64{high}, []int{0, 1}, []int64{32768, 32768}},
		{[]int8{-100, -128}, 2, 2, []int64{high}, []int{0, 1}, []int64{32768, 32768}},
		{[]int8{-64, 64}, 2, 2, []int64{least}, []int{0, 1}, []int64{65536, 0}},
	} {
		checkRoute(t, c.router, c.experts, c.k, c.x, c.places, c.shares)
		sameRoute(t, c.router, c.experts, c.k, c.x)
	}
}

// 16.2: routes of all kinds, with each k that there is, and those beside them.
func TestRouteMixed(t *testing.T) {
	for seed := range uint64(800) {
		width, experts := int(seed%8)+1, int(seed/8%9)+1
		router, x := weights(width*experts, seed), row(width, seed+5000)
		for i := range x {
			// Half of the rows are small, so that scores lie near to one another and none of the shares is 0.
			if seed%2 == 0 {
				x[i] %= 4096
			}
		}
		for k := -1; k <= experts+2; k++ {
			sameRoute(t, router, experts, k, x)
		}
		// All rows of the router are the same, or two of them are.
		copy(router[(experts-1)*width:], router[:width])
		for k := 1; k <= experts; k++ {
			sameRoute(t, router, experts, k, x)
			sameRoute(t, slices.Repeat(router[:width], experts), experts, k, x)
		}
	}
}

// 16.2: the smallest and the greatest numbers and weights in a router.
func TestRouteEdges(t *testing.T) {
	numbers := []int64{least, low - 1, low, -1, 0, 1, high, high + 1, most}
	for _, a := range numbers {
		for _, b := range numbers {
			for k := 1; k <= 6; k++ {
				sameRoute(t, []int8{-128, 127, 0, 1, -1, 64}, 6, k, []int64{a})
				sameRoute(t, []int8{-128, 127, 127, -128, 1, 0, 0, -1, 64, 64, -64, 64}, 6, k, []int64{a, b})
			}
		}
	}
}

// 16.2: many experts, few and all of them chosen; of more than 32768 that are the same each has a share of 2.
func TestRouteMany(t *testing.T) {
	router, x := weights(6000, 1), ordinary(2, 2)
	for _, k := range []int{1, 2, 1000, 2999, 3000, 3001} {
		sameRoute(t, router, 3000, k, x)
	}
	places := make([]int, 40000)
	for i := range places {
		places[i] = i
	}
	checkRoute(t, flat(40000, 5), 40000, 40000, []int64{7}, places, slices.Repeat([]int64{2}, 40000))
}

// 16.2: a k that is not from 1 to experts is refused ahead of everything else.
func TestRouteRange(t *testing.T) {
	x := []int64{65536, 5}
	for experts := 1; experts <= 4; experts++ {
		router := flat(2*experts, 64)
		for _, k := range []int{0, -1, -experts, math.MinInt, experts + 1, experts + 2, 100, math.MaxInt} {
			refuseRoute(t, router, experts, k, x, api.ErrRange)
			// Both hold: the router is wrong, too.
			refuseRoute(t, router[1:], experts, k, x, api.ErrRange)
			refuseRoute(t, nil, experts, k, x, api.ErrRange)
			refuseRoute(t, router, experts, k, nil, api.ErrRange)
			refuseRoute(t, nil, experts, k, []int64{}, api.ErrRange)
		}
	}
	for _, experts := range []int{0, -1, -2, -4, math.MinInt} {
		for _, k := range []int{math.MinInt, -5, -1, 0, 1, 2, math.MaxInt} {
			refuseRoute(t, nil, experts, k, x, api.ErrRange)
			refuseRoute(t, []int8{64, 64}, experts, k, x, api.ErrRange)
			refuseRoute(t, nil, experts, k, nil, api.ErrRange)
		}
	}
}

// 16.2: Mat's errors of the router, where k is right.
func TestRouteShape(t *testing.T) {
	for width := 1; width <= 3; width++ {
		x := ordinary(width, 8)
		for experts := 1; experts <= 4; experts++ {
			size := width * experts
			for k := 1; k <= experts; k++ {
				for _, wrong := range []int{0, 1, size - width, size - 1, size + 1, size + width, 2 * size, 100} {
					if wrong != size {
						refuseRoute(t, flat(wrong, 64), experts, k, x, api.ErrShape)
					}
				}
				for _, empty := range [][]int64{nil, {}} {
					refuseRoute(t, flat(size, 64), experts, k, empty, api.ErrShape)
					refuseRoute(t, nil, experts, k, empty, api.ErrShape)
				}
			}
		}
		for _, experts := range []int{math.MaxInt, 1 << 62, 1 << 61, 1<<62 + 1, 1 << 32} {
			for _, k := range []int{1, 2, experts - 1, experts} {
				refuseRoute(t, nil, experts, k, x, api.ErrShape)
				refuseRoute(t, flat(4, 64), experts, k, x, api.ErrShape)
			}
		}
	}
}

// 16.2: Mix, reckoned by hand: the row 2 is made 1 by up and the curve; down makes -2 to 2 of that.
func TestMix(t *testing.T) {
	ups := [][]int8{{64}, {64}, {64}}
	numbers := map[int64]int8{-2: -128, -1: -64, 0: 0, 1: 64, 2: 127}
	for number, w := range numbers {
		checkOne(t, []int8{64}, []int8{w}, 1, []int64{2}, []int64{number})
	}
	for _, c := range []struct {
		router  []int8
		numbers []int64
		k       int
		want    int64
	}{
		// Halves, rounded once, behind the sum, away from 0.
		{[]int8{0, 0}, []int64{1, 1}, 2, 1},
		{[]int8{0, 0}, []int64{-1, -1}, 2, -1},
		{[]int8{0, 0}, []int64{1, -1}, 2, 0},
		{[]int8{0, 0}, []int64{1, 0}, 2, 1},
		{[]int8{0, 0}, []int64{0, 1}, 2, 1},
		{[]int8{0, 0}, []int64{-1, 0}, 2, -1},
		{[]int8{0, 0}, []int64{0, -1}, 2, -1},
		{[]int8{0, 0}, []int64{2, 1}, 2, 2},
		{[]int8{0, 0}, []int64{-2, -1}, 2, -2},
		{[]int8{0, 0}, []int64{2, -1}, 2, 1},
		{[]int8{0, 0}, []int64{-2, 1}, 2, -1},
		{[]int8{0, 0}, []int64{-2, 2}, 2, 0},
		// Thirds: one alone is less than a half.
		{[]int8{0, 0, 0}, []int64{1, 0, 0}, 3, 0},
		{[]int8{0, 0, 0}, []int64{-1, 0, 0}, 3, 0},
		{[]int8{0, 0, 0}, []int64{1, 0, 1}, 3, 1},
		{[]int8{0, 0, 0}, []int64{0, -1, -1}, 3, -1},
		{[]int8{0, 0, 0}, []int64{2, 2, 2}, 3, 2},
		{[]int8{0, 0, 0}, []int64{-2, -2, 0}, 3, -1},
		// Of three the first two, or the first, where the scores are the same.
		{[]int8{0, 0, 0}, []int64{1, 2, -2}, 2, 2},
		{[]int8{0, 0, 0}, []int64{-2, 1, 2}, 1, -2},
		// The scores 4 and 0 are near enough for halves; the order of places is theirs.
		{[]int8{0, 127, 127}, []int64{1, 2, -1}, 2, 1},
		{[]int8{0, 127, 127}, []int64{1, 2, -1}, 1, 2},
		{[]int8{127, 0, 127}, []int64{2, 1, 1}, 2, 2},
		{[]int8{0, 0, 127}, []int64{1, 2, -1}, 1, -1},
	} {
		var downs [][]int8
		for _, n := range c.numbers {
			downs = append(downs, []int8{numbers[n]})
		}
		checkMix(t, c.router, ups[:len(downs)], downs, 1, c.k, []int64{2}, []int64{c.want})
		sameMix(t, c.router, ups[:len(downs)], downs, 1, c.k, []int64{2})
	}
}

// 16.2: each share goes with its network's numbers, place by place, also where Route's order is not that of the places.
func TestMixShares(t *testing.T) {
	x := []int64{65536, 65536}
	// The scores are 0, 2 and 1.
	router := []int8{0, 0, 64, 64, 0, 64}
	ups := [][]int8{{64, 0}, {64, 0}, {64, 0}}
	downs := [][]int8{{1, 100}, {64, 0}, {0, 64}}
	places, shares, e := Route(router, 3, 3, x)
	if !slices.Equal(places, []int{1, 2, 0}) || e != api.OK || shares[0] <= shares[1] || shares[1] <= shares[2] || shares[2] == 0 {
		t.Fatalf("%v, %v, error %d", places, shares, e)
	}
	first := together(shares, []int64{47909, 0, 749})
	second := together(shares, []int64{0, 47909, 74858})
	checkMix(t, router, ups, downs, 1, 3, x, []int64{first, second})
	_, shares, _ = Route(router, 3, 2, x)
	checkMix(t, router, ups, downs, 1, 2, x, []int64{together(shares, []int64{47909, 0}), together(shares, []int64{0, 47909})})
	checkMix(t, router, ups, downs, 1, 1, x, []int64{47909, 0})
	// Each number's opposite has the opposite answer: a half is rounded away from 0 on either side.
	for i, down := range downs {
		for j, w := range down {
			downs[i][j] = -w
		}
	}
	checkMix(t, router, ups, downs, 1, 3, x, []int64{-first, -second})
}

// 16.2: networks and rows of all kinds, held against whole numbers without bounds; with each k that there is, and those beside them.
func TestMixMixed(t *testing.T) {
	below, blended := 0, 0
	for seed := range uint64(1500) {
		width, hidden, experts := int(seed%8)+1, int(seed/8%8)+1, int(seed/64%5)+1
		router, x := weights(width*experts, seed), row(width, seed+5000)
		for i := range x {
			// Half of the rows are small, so that scores lie near to one another and none of the shares is 0.
			if seed%2 == 0 {
				x[i] %= 4096
			}
		}
		ups, downs := networks(experts, width*hidden, seed+10000), networks(experts, width*hidden, seed+20000)
		for k := -1; k <= experts+2; k++ {
			sameMix(t, router, ups, downs, hidden, k, x)
		}
		sameMix(t, make([]int8, width*experts), ups, downs, hidden, experts, x)
		list, _ := Mix(router, ups, downs, hidden, experts, x)
		if slices.ContainsFunc(list, func(n int64) bool { return n < 0 }) {
			below++
		}
		if _, shares, _ := Route(router, experts, experts, x); slices.Max(shares) < 65000 {
			blended++
		}
	}
	if below < 100 || blended < 100 {
		t.Errorf("%d answers below 0, %d of several shares", below, blended)
	}
}

// 16.2: the smallest and the greatest numbers and weights, in several networks.
func TestMixEdges(t *testing.T) {
	numbers := []int64{least, low - 1, low, -65536, -1, 0, 1, 65536, high, high + 1, most}
	small := []int8{-128, -1, 0, 1, 127}
	for _, n := range numbers {
		for _, a := range small {
			for _, b := range small {
				ups, downs := [][]int8{{a}, {b}, {127}}, [][]int8{{b}, {-128}, {a}}
				for k := 1; k <= 3; k++ {
					sameMix(t, []int8{a, b, 0}, ups, downs, 1, k, []int64{n})
					sameMix(t, []int8{0, 0, 0}, ups, downs, 1, k, []int64{n})
				}
			}
		}
	}
	nets, opposite := [][]int8{{127}, {127}}, [][]int8{{-128}, {-128}}
	checkMix(t, []int8{0, 0}, nets, nets, 1, 2, []int64{most}, []int64{high})
	checkMix(t, []int8{0, 0}, nets, opposite, 1, 2, []int64{most}, []int64{low})
	checkMix(t, []int8{0, 0}, nets, [][]int8{{127}, {-128}}, 1, 2, []int64{most}, []int64{-1})
}

// 16.2: the answer is clamped. (It takes more than 32768 networks for the shares to be more than one together.)
func TestMixClamps(t *testing.T) {
	count := 40000
	nets := slices.Repeat([][]int8{{127}}, count)
	router := make([]int8, count)
	checkMix(t, router, nets, nets, 1, count, []int64{most}, []int64{high})
	checkMix(t, router, nets, slices.Repeat([][]int8{{-128}}, count), 1, count, []int64{most}, []int64{low})
	// The shares are 2 each, 80000 together.
	checkMix(t, router, slices.Repeat([][]int8{{64}}, count), slices.Repeat([][]int8{{64}}, count), 1, count, []int64{65536}, []int64{together([]int64{80000}, []int64{47909})})
}

// 16.2: a place's sum goes expert by expert, by sat.Add. (Soft's shares are together far too small for a sum to leave 64 bits; so shares that are greater are handed in here.)
func TestBlendOrder(t *testing.T) {
	share := int64(1 << 31)
	for _, c := range []struct {
		members []int64
		want    int64
	}{
		{[]int64{high, low, high, low}, -65536},
		{[]int64{low, high, low, high}, -65536},
		{[]int64{high, high, high, low, low, low}, low},
		{[]int64{low, low, low, high, high, high}, high},
		{[]int64{low, low, low, low}, low},
		{[]int64{high, high, high, high}, high},
	} {
		var rows [][]int64
		for _, m := range c.members {
			rows = append(rows, []int64{77, m})
		}
		shares := slices.Repeat([]int64{share}, len(c.members))
		if n := blend(shares, rows, 1); n != c.want || together(shares, c.members) != c.want {
			t.Errorf("%v: %d, %d reckoned, not %d", c.members, n, together(shares, c.members), c.want)
		}
	}
}

// 16.2: no ups, and downs that are not as many, are refused ahead of everything else.
func TestMixCounts(t *testing.T) {
	x := []int64{65536}
	for _, k := range []int{math.MinInt, -1, 0, 1, 2, 3, 4, 5, math.MaxInt} {
		for _, none := range [][][]int8{nil, {}} {
			refuseMix(t, nil, none, none, 1, k, x, api.ErrShape)
			refuseMix(t, nil, none, [][]int8{}, 1, k, x, api.ErrShape)
			refuseMix(t, []int8{64}, none, none, 1, k, x, api.ErrShape)
			refuseMix(t, []int8{64}, none, [][]int8{{64}}, 1, k, x, api.ErrShape)
			refuseMix(t, []int8{64}, [][]int8{{64}}, none, 1, k, x, api.ErrShape)
			refuseMix(t, nil, none, none, 0, k, nil, api.ErrShape)
		}
		for count := 1; count <= 4; count++ {
			nets, router := slices.Repeat([][]int8{{64}}, count), flat(count, 64)
			for _, other := range []int{0, count - 1, count + 1, 2 * count} {
				wrong := slices.Repeat([][]int8{{64}}, other)
				refuseMix(t, router, nets, wrong, 1, k, x, api.ErrShape)
				refuseMix(t, router, wrong, nets, 1, k, x, api.ErrShape)
				refuseMix(t, flat(other, 64), nets, wrong, 1, k, x, api.ErrShape)
				refuseMix(t, flat(other, 64), wrong, nets, 1, k, x, api.ErrShape)
				refuseMix(t, nil, nets, wrong, 1, k, x, api.ErrShape)
				refuseMix(t, nil, nets, wrong, -1, k, nil, api.ErrShape)
			}
		}
	}
}

// 16.2: one network alone is One of it, whatever the router and k are.
func TestMixOfOne(t *testing.T) {
	for seed := range uint64(40) {
		width, hidden := int(seed%4)+1, int(seed/4%4)+1
		up, down, x := weights(width*hidden, seed), weights(width*hidden, seed+100), row(width, seed+200)
		want, e := One(up, down, hidden, x)
		if e != api.OK {
			t.Fatalf("error %d", e)
		}
		for _, router := range [][]int8{nil, {}, {64}, flat(width, 64), flat(width+1, -128), flat(100, 127)} {
			for _, k := range []int{math.MinInt, -1, 0, 1, 2, 5, math.MaxInt} {
				checkMix(t, router, [][]int8{up}, [][]int8{down}, hidden, k, x, want)
				// One's errors are the answer.
				refuseMix(t, router, [][]int8{up[1:]}, [][]int8{down}, hidden, k, x, api.ErrShape)
				refuseMix(t, router, [][]int8{up}, [][]int8{append(slices.Clone(down), 1)}, hidden, k, x, api.ErrShape)
				refuseMix(t, router, [][]int8{nil}, [][]int8{nil}, 0, k, x, api.ErrShape)
				refuseMix(t, router, [][]int8{up}, [][]int8{down}, -hidden, k, x, api.ErrShape)
				refuseMix(t, router, [][]int8{up}, [][]int8{down}, hidden, k, nil, api.ErrShape)
			}
		}
	}
}

// 16.2: of several networks Route's errors are the answer, ErrRange ahead of everything that is behind it.
func TestMixRefusesRoute(t *testing.T) {
	x := []int64{65536, -65536}
	for count := 2; count <= 4; count++ {
		nets, router := slices.Repeat([][]int8{{64, 64}}, count), flat(2*count, 64)
		wrong := slices.Repeat([][]int8{{64}}, count)
		for _, k := range []int{math.MinInt, -1, 0, count + 1, count + 2, math.MaxInt} {
			refuseMix(t, router, nets, nets, 1, k, x, api.ErrRange)
			refuseMix(t, router[1:], nets, nets, 1, k, x, api.ErrRange)
			refuseMix(t, nil, nets, nets, 1, k, x, api.ErrRange)
			refuseMix(t, router, nets, nets, 1, k, nil, api.ErrRange)
			refuseMix(t, router, wrong, nets, 1, k, x, api.ErrRange)
			refuseMix(t, router, nets, wrong, 1, k, x, api.ErrRange)
			refuseMix(t, router, nets, nets, -1, k, x, api.ErrRange)
			refuseMix(t, nil, wrong, wrong, 0, k, nil, api.ErrRange)
		}
		for k := 1; k <= count; k++ {
			for _, size := range []int{0, 1, count, 2*count - 2, 2*count - 1, 2*count + 1, 2*count + 2, 4 * count} {
				if size != 2*count {
					refuseMix(t, flat(size, 64), nets, nets, 1, k, x, api.ErrShape)
				}
			}
			refuseMix(t, router, nets, nets, 1, k, nil, api.ErrShape)
			refuseMix(t, nil, nets, nets, 1, k, []int64{}, api.ErrShape)
			refuseMix(t, router, nets, nets, 1, k, x[:1], api.ErrShape)
		}
	}
}

// wrongSizes hands on weights that are a bit or much too few or too many.
func wrongSizes(size int, do func([]int8)) {
	for _, wrong := range []int{0, size - 1, size + 1, 2 * size, 100} {
		do(flat(wrong, 64))
	}
	do(nil)
}

// 16.2: One's error of a network that is chosen is the answer, whichever of the chosen ones it is; that of one that is not chosen is none.
func TestMixRefusesChosen(t *testing.T) {
	x := []int64{65536, 0}
	// Route's order is 2, 0, 3, 1.
	router := []int8{32, 0, -64, 0, 64, 0, 16, 0}
	order := []int{2, 0, 3, 1}
	for k := 1; k <= 4; k++ {
		good, other := networks(4, 6, 1), networks(4, 6, 2)
		want, e := Mix(router, good, other, 3, k, x)
		if e != api.OK {
			t.Fatalf("error %d", e)
		}
		for rank, place := range order {
			wrongSizes(6, func(wrong []int8) {
				ups, downs := slices.Clone(good), slices.Clone(other)
				ups[place], downs[place] = wrong, wrong
				if rank < k {
					refuseMix(t, router, ups, other, 3, k, x, api.ErrShape)
					refuseMix(t, router, good, downs, 3, k, x, api.ErrShape)
					refuseMix(t, router, ups, downs, 3, k, x, api.ErrShape)
					return
				}
				checkMix(t, router, ups, other, 3, k, x, want)
				checkMix(t, router, good, downs, 3, k, x, want)
				checkMix(t, router, ups, downs, 3, k, x, want)
			})
		}
		// A wrong hidden is wrong for each of them.
		for _, hidden := range []int{math.MinInt, -3, -1, 0, 1, 2, 4, 6, math.MaxInt} {
			refuseMix(t, router, good, other, hidden, k, x, api.ErrShape)
		}
	}
}

// 16.3: with k 1 Mix is One of the network with the greatest score, the first of these.
func TestMixWithOneChosen(t *testing.T) {
	for _, c := range []struct {
		router []int8
		x      int64
		want   int
	}{
		{[]int8{1, 2, 3, 4}, 65536, 3}, {[]int8{4, 3, 2, 1}, 65536, 0}, {[]int8{1, 4, 3, 2}, 65536, 1}, {[]int8{1, 2, 4, 3}, 65536, 2},
		{[]int8{1, 2, 3, 4}, -65536, 0}, {[]int8{-128, -127, -1, -2}, 65536, 2},
		{[]int8{4, 4, 4, 4}, 65536, 0}, {[]int8{1, 4, 4, 4}, 65536, 1}, {[]int8{1, 4, 2, 4}, 65536, 1}, {[]int8{1, 2, 4, 4}, 65536, 2}, {[]int8{4, 1, 1, 4}, 65536, 0},
		{[]int8{1, 2, 3, 4}, 0, 0}, {[]int8{0, 0, 0, 0}, 65536, 0}, {[]int8{1, 2, 1, 1}, -65536, 0}, {[]int8{2, 1, 2, 1}, -65536, 1},
		// Scores that are clamped are the same.
		{[]int8{64, 100, 127, 65}, most, 0}, {[]int8{1, 100, 127, 65}, high, 1}, {[]int8{-128, -65, -127, -100}, most, 0}, {[]int8{-128, -65, -127, -64}, most, 3},
	} {
		ups, downs, x := networks(4, 3, 7), networks(4, 3, 8), []int64{c.x}
		for range ups {
			want, e := One(ups[c.want], downs[c.want], 3, x)
			if e != api.OK {
				t.Fatalf("error %d", e)
			}
			checkMix(t, c.router, ups, downs, 3, 1, x, want)
			// The networks change places; the router stays.
			ups, downs = slices.Concat(ups[1:], ups[:1]), slices.Concat(downs[1:], downs[:1])
		}
	}
	for seed := range uint64(600) {
		width, hidden, experts := int(seed%5)+1, int(seed/5%4)+1, int(seed/20%6)+1
		router, x := weights(width*experts, seed), row(width, seed+1000)
		ups, downs := networks(experts, width*hidden, seed+2000), networks(experts, width*hidden, seed+3000)
		scores, _ := vec.Mat(router, experts, x)
		place := slices.Index(scores, slices.Max(scores))
		want, e := One(ups[place], downs[place], hidden, x)
		if e != api.OK {
			t.Fatalf("error %d", e)
		}
		checkMix(t, router, ups, downs, hidden, 1, x, want)
	}
}

// 16.3: networks that are not chosen change nothing, whatever stands in their places.
func TestMixOthers(t *testing.T) {
	for seed := range uint64(300) {
		width, hidden, experts := int(seed%4)+1, int(seed/4%4)+1, int(seed/16%5)+2
		router, x := weights(width*experts, seed), row(width, seed+1000)
		size := width * hidden
		ups, downs := networks(experts, size, seed+2000), networks(experts, size, seed+3000)
		for k := 1; k < experts; k++ {
			want, e := Mix(router, ups, downs, hidden, k, x)
			places, _, f := Route(router, experts, k, x)
			if e != api.OK || f != api.OK {
				t.Fatalf("errors %d, %d", e, f)
			}
			replace := func(net []int8) {
				left, right := slices.Clone(ups), slices.Clone(downs)
				for i := range experts {
					if !slices.Contains(places, i) {
						left[i], right[i] = net, net
					}
				}
				checkMix(t, router, left, downs, hidden, k, x, want)
				checkMix(t, router, ups, right, hidden, k, x, want)
				checkMix(t, router, left, right, hidden, k, x, want)
			}
			replace(weights(size, seed+9000))
			replace(flat(size, 127))
			replace(flat(size, 0))
			wrongSizes(size, replace)
		}
	}
}

// 16.1, 16.2: every small shape, right or wrong, with the error that comes first.
func TestAllShapes(t *testing.T) {
	for width := range 3 {
		x := []int64{65536, -32768}[:width]
		for hidden := -1; hidden <= 2; hidden++ {
			for up := range 6 {
				for down := range 6 {
					sameOne(t, weights(up, 1), weights(down, 2), hidden, x)
				}
			}
		}
		for experts := -1; experts <= 4; experts++ {
			for k := -1; k <= 5; k++ {
				for size := range 10 {
					sameRoute(t, weights(size, 3), experts, k, x)
				}
			}
		}
		for ups := range 4 {
			for downs := range 4 {
				for k := -1; k <= 4; k++ {
					allMixes(t, ups, downs, k, x)
				}
			}
		}
	}
}

// allMixes is Mix of so many ups and downs, with routers and networks of every small size.
func allMixes(t *testing.T, ups, downs, k int, x []int64) {
	t.Helper()
	for _, size := range []int{0, 1, 2, 3, 4, 5, 6, 7} {
		for hidden := -1; hidden <= 2; hidden++ {
			for up := range 5 {
				for down := range 5 {
					sameMix(t, weights(size, 4), networks(ups, up, 5), networks(downs, down, 6), hidden, k, x)
				}
			}
		}
	}
}

// R1: no call ends in a panic: lists of many lengths, with numbers of any size beside them.
func TestNoPanic(t *testing.T) {
	odd := []int{math.MinInt, math.MinInt + 1, -1 << 62, -1 << 32, -2, -1, 0, 1, 2, 3, 4, 8, 1 << 31, 1 << 32, 1 << 61, 1 << 62, math.MaxInt - 1, math.MaxInt}
	for i, a := range odd {
		for _, b := range odd {
			for _, count := range []int{0, 1, 2, 4, 8, 64} {
				for _, width := range []int{0, 1, 2, 4, 8} {
					x := mixed(width, uint64(i))
					sameOne(t, weights(count, 1), weights(width, 2), a, x)
					sameRoute(t, weights(count, 3), a, b, x)
					for _, nets := range []int{0, 1, 2, 4} {
						sameMix(t, weights(count, 4), networks(nets, width, 5), networks(nets, count, 6), a, b, x)
						sameMix(t, weights(count, 4), make([][]int8, nets), make([][]int8, nets), a, b, x)
					}
				}
			}
		}
	}
}

// R1: what is thrown is caught by what it is: an error is answered, nothing is OK, and anything else goes on.
func TestCaught(t *testing.T) {
	for _, e := range []api.Errno{api.ErrShape, api.ErrRange, api.ErrNone, api.OK} {
		if got := caught(e); got != e {
			t.Errorf("%d thrown, %d caught", e, got)
		}
	}
	if e := caught(nil); e != api.OK {
		t.Errorf("nothing thrown, %d caught", e)
	}
	for _, other := range []any{21, "outcome 21", 21.0} {
		func() {
			defer func() {
				if thrown := recover(); thrown != other {
					t.Errorf("%v thrown, %v went on", other, thrown)
				}
			}()
			caught(other)
		}()
	}
}

// roomy is a list with marked room behind its end.
func roomy[M int8 | int64](list ...M) []M {
	all := append(slices.Clone(list), 11, 22, 33)
	return all[:len(list)]
}

// roomyNetworks is lists with marked room behind their ends, and behind the list's.
func roomyNetworks(nets ...[]int8) [][]int8 {
	var all [][]int8
	for _, net := range nets {
		all = append(all, roomy(net...))
	}
	return append(all, []int8{44}, []int8{55})[:len(nets)]
}

// whole is a copy of lists, with the room behind their ends.
func whole(nets [][]int8) [][]int8 {
	var all [][]int8
	for _, net := range nets[:cap(nets)] {
		all = append(all, slices.Clone(net[:cap(net)]))
	}
	return all
}

// spoil writes over an answer, with the room behind its end.
func spoil[M int | int64](list []M) {
	for i := range cap(list) {
		list[:cap(list)][i] = 99
	}
}

// R4: what is handed in is as it was afterwards, with the room behind it; answers share nothing with it, nor with one another.
func TestNothingChanged(t *testing.T) {
	x, router := roomy[int64](most, -5, 70000), roomy[int8](64, 1, 2, 127, -128, 3, 0, 64, 0)
	ups := roomyNetworks([]int8{64, 0, 1, 2, 3, -128}, []int8{127, 5, 5, 0, 64, 0}, []int8{1, 2, 3, 4, 5, 6})
	downs := roomyNetworks([]int8{64, 64, 0, -64, 127, -128}, []int8{7, 8, 9, 10, 11, 12}, []int8{0, 0, 64, 64, 0, 0})
	before := []any{slices.Clone(x[:6]), slices.Clone(router[:12]), whole(ups), whole(downs)}
	answers := func() ([][]int64, [][]int) {
		one, _ := One(ups[0], downs[0], 2, x)
		twice, _ := One(ups[0], ups[0], 2, x)
		two, shares, _ := Route(router, 3, 2, x)
		three, all, _ := Route(router, 3, 3, x)
		alone, _ := Mix(router, ups[:1], downs[:1], 2, 0, x)
		chosen, _ := Mix(router, ups, downs, 2, 1, x)
		both, _ := Mix(router, ups, downs, 2, 3, x)
		same, _ := Mix(router, ups, ups, 2, 2, x)
		_, short := One(ups[0], downs[0], 3, x)
		_, _, many := Route(router, 3, 4, x)
		_, none := Mix(router, ups, downs[:2], 2, 1, x)
		return [][]int64{one, twice, shares, all, alone, chosen, both, same, {int64(short), int64(many), int64(none)}}, [][]int{two, three}
	}
	rows, places := answers()
	keptRows, keptPlaces := make([][]int64, len(rows)), make([][]int, len(places))
	for i := range rows {
		keptRows[i] = slices.Clone(rows[i])
	}
	for i := range places {
		keptPlaces[i] = slices.Clone(places[i])
	}
	for i := range rows {
		if !slices.Equal(rows[i], keptRows[i]) || len(rows[i]) == 0 {
			t.Errorf("answer %d shares memory with one ahead of it, or is empty: %v", i, rows[i])
		}
		spoil(rows[i])
	}
	for i := range places {
		if !slices.Equal(places[i], keptPlaces[i]) || len(places[i]) == 0 {
			t.Errorf("places %d share memory with others, or are none: %v", i, places[i])
		}
		spoil(places[i])
	}
	rows, places = answers()
	if !slices.EqualFunc(rows, keptRows, slices.Equal) || !slices.EqualFunc(places, keptPlaces, slices.Equal) {
		t.Errorf("%v, %v, then %v, %v", keptRows, keptPlaces, rows, places)
	}
	if !slices.Equal(x[:6], before[0].([]int64)) || !slices.Equal(router[:12], before[1].([]int8)) {
		t.Errorf("changed: %v, %v", x[:6], router[:12])
	}
	if !slices.EqualFunc(whole(ups), before[2].([][]int8), slices.Equal) || !slices.EqualFunc(whole(downs), before[3].([][]int8), slices.Equal) {
		t.Errorf("changed: %v, %v", whole(ups), whole(downs))
	}
}

// R4: what lies behind a list's end is not read: lists are of their length, whatever room they have.
func TestRoomIsNotRead(t *testing.T) {
	x := roomy[int64](65536, 5)
	refuseOne(t, roomy[int8](64), []int8{64, 64}, 1, x)
	refuseOne(t, []int8{64, 64}, roomy[int8](64), 1, x)
	refuseRoute(t, roomy[int8](64, 64, 64), 2, 1, x, api.ErrShape)
	nets := roomyNetworks([]int8{64, 64})
	refuseMix(t, []int8{1, 1, 1, 1}, nets, nets[:2], 1, 1, x, api.ErrShape)
	checkMix(t, nil, nets, nets, 1, 0, []int64{65536, 0}, []int64{47909, 47909})
}
