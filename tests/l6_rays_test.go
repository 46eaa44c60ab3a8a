package tests

import (
	"math"
	"math/big"
	"slices"
	"testing"

	"loop.example/g01031/impl"
)

// slope is num/den.
type slope struct{ num, den int }

// goodSlopes are at the limits or within them, and not all in lowest terms.
var goodSlopes = []slope{
	{0, 1}, {0, 100}, {1, 100}, {1, 2}, {2, 4}, {50, 100}, {1, 1}, {100, 100}, {7, 13}, {197, 99}, {199, 100},
	{2, 1}, {4, 2}, {100, 50}, {198, 99}, {200, 100},
}

// wrongSlopes are beyond a limit or greater than 2, by one or by far.
var wrongSlopes = []slope{
	{-1, 1}, {-1, 100}, {math.MinInt, 1}, {math.MinInt, math.MinInt}, {-1, -1}, {-2, -1}, {1, -2},
	{0, 0}, {1, 0}, {0, -1}, {0, 101}, {1, 101}, {200, 101}, {201, 101}, {1, math.MaxInt}, {1, math.MinInt}, {0, math.MinInt},
	{3, 1}, {5, 2}, {101, 50}, {199, 99}, {200, 99}, {201, 100}, {202, 101}, {math.MaxInt, 1}, {math.MaxInt, 100}, {math.MaxInt, math.MaxInt},
}

// strataOf makes layers of pairs of a Thick and a Speed.
func strataOf(numbers ...int) []impl.Stratum {
	list := []impl.Stratum{}
	for i := 0; i+1 < len(numbers); i += 2 {
		list = append(list, impl.Stratum{Thick: numbers[i], Speed: numbers[i+1]})
	}
	return list
}

// manyStrata are layers of which none is as thick or as fast as another.
func manyStrata(count int) []impl.Stratum {
	list := []impl.Stratum{}
	for i := range count {
		list = append(list, impl.Stratum{Thick: 40 + 17*i, Speed: 1500 + 23*i*(1-2*(i%2))})
	}
	return list
}

// goodStrata are at the limits or within them.
func goodStrata() [][]impl.Stratum {
	lists := [][]impl.Stratum{
		strataOf(1, 1300), strataOf(1, 1700), strataOf(5000, 1300), strataOf(5000, 1700), strataOf(2, 1500), strataOf(300, 1499),
		strataOf(200, 1500, 300, 1600), strataOf(300, 1600, 200, 1500), strataOf(1, 1300, 1, 1700), strataOf(4999, 1301, 2, 1699),
		strataOf(150, 1500, 150, 1500), strataOf(10, 1500, 20, 1500, 30, 1400, 40, 1400, 50, 1500),
		strataOf(1, 1500, 1, 1510, 1, 1520, 1, 1530, 1, 1540),
		strataOf(5000, 1300, 5000, 1300, 5000, 1300, 5000, 1300, 5000, 1300),
		strataOf(5000, 1700, 5000, 1700, 5000, 1700, 5000, 1700, 5000, 1700),
		// Primes, so that the sum of the times has the greatest denominator.
		strataOf(4999, 1699, 4998, 1697, 4997, 1693, 5000, 1669, 4993, 1667),
		strataOf(4999, 1301, 4998, 1303, 4997, 1307, 5000, 1319, 4993, 1321),
		strataOf(4999, 1301, 4997, 1699),
	}
	for count := 1; count <= impl.MaxStrata; count++ {
		lists = append(lists, manyStrata(count))
	}
	return lists
}

// wrongLayers are beyond one limit each, by one or by far.
func wrongLayers() []impl.Stratum {
	list := []impl.Stratum{{}, {Thick: 1500, Speed: 200}}
	for _, n := range []int{math.MinInt, -200, -1, 0, 5001, math.MaxInt} {
		list = append(list, impl.Stratum{Thick: n, Speed: 1500})
	}
	for _, n := range []int{math.MinInt, -1500, 0, 1299, 1701, math.MaxInt} {
		list = append(list, impl.Stratum{Thick: 200, Speed: n})
	}
	return list
}

// wrongStrata are none, too many, or with one layer that is not valid.
func wrongStrata() [][]impl.Stratum {
	lists := [][]impl.Stratum{nil, {}, manyStrata(impl.MaxStrata + 1), manyStrata(7)}
	for _, wrong := range wrongLayers() {
		first, last := impl.Stratum{Thick: 200, Speed: 1500}, impl.Stratum{Thick: 300, Speed: 1600}
		lists = append(lists, []impl.Stratum{wrong}, []impl.Stratum{wrong, last}, []impl.Stratum{first, wrong}, []impl.Stratum{first, wrong, last})
	}
	return lists
}

// endsOf returns the depths at which the layers of a list end.
func endsOf(list []impl.Stratum) []int {
	ends, depth := []int{}, 0
	for _, s := range list {
		depth += s.Thick
		ends = append(ends, depth)
	}
	return ends
}

// totalOf returns the depth at which the last layer ends.
func totalOf(list []impl.Stratum) int { return endsOf(list)[len(list)-1] }

// depthsOf returns depths from 0 to the whole depth: the ends of the layers, the centimeters beside them and some between.
func depthsOf(list []impl.Stratum) []int {
	total := totalOf(list)
	depths := []int{0, 1, total}
	for _, end := range endsOf(list) {
		depths = append(depths, end-1, end, end+1)
	}
	for depth := 2; depth < total; depth += 1 + total/11 {
		depths = append(depths, depth)
	}
	depths = slices.DeleteFunc(depths, func(depth int) bool { return depth > total })
	slices.Sort(depths)
	return slices.Compact(depths)
}

// partsOf returns, by the document's words, how much of each layer lies above a depth.
func partsOf(list []impl.Stratum, depth *big.Rat) []*big.Rat {
	parts, top := []*big.Rat{}, 0
	for _, s := range list {
		part := new(big.Rat).Sub(depth, big.NewRat(int64(top), 1))
		if part.Sign() < 0 {
			part = new(big.Rat)
		}
		if thick := big.NewRat(int64(s.Thick), 1); part.Cmp(thick) > 0 {
			part = thick
		}
		parts = append(parts, part)
		top += s.Thick
	}
	return parts
}

// plainSlope is, by the document's words, what a ray goes to the side in a layer for each centimeter down.
func plainSlope(list []impl.Stratum, layer int, s slope) *big.Rat {
	first := big.NewRat(int64(s.num), int64(s.den))
	if layer == 0 {
		return first
	}
	return first.Mul(first, big.NewRat(int64(list[layer].Speed), int64(list[0].Speed)))
}

// plainRun is, by the document's words, the run of a ray down to a depth.
func plainRun(list []impl.Stratum, s slope, depth int) *big.Rat {
	run := new(big.Rat)
	for i, part := range partsOf(list, big.NewRat(int64(depth), 1)) {
		run.Add(run, new(big.Rat).Mul(part, plainSlope(list, i, s)))
	}
	return run
}

// plainTime is, by the document's words, the time that sound takes straight down to a depth.
func plainTime(list []impl.Stratum, depth *big.Rat) *big.Rat {
	time := new(big.Rat)
	for i, part := range partsOf(list, depth) {
		time.Add(time, new(big.Rat).Mul(part, big.NewRat(10, int64(list[i].Speed))))
	}
	return time
}

// isExactly tells whether num/den is want, in lowest terms and with den positive.
func isExactly(num, den int, want *big.Rat) bool {
	return want.Num().Cmp(big.NewInt(int64(num))) == 0 && want.Denom().Cmp(big.NewInt(int64(den))) == 0
}

func TestP6AreStrata(t *testing.T) {
	for _, list := range goodStrata() {
		if !impl.AreStrata(list) {
			t.Error("not valid", list)
		}
	}
	for _, list := range wrongStrata() {
		if impl.AreStrata(list) {
			t.Error("valid", list)
		}
	}
	for count := range 12 {
		if impl.AreStrata(manyStrata(count)) != (1 <= count && count <= 5) {
			t.Error("count", count)
		}
	}
	for n := -10; n <= 6000; n++ {
		if impl.AreStrata(strataOf(n, 1500)) != (1 <= n && n <= 5000) {
			t.Error("thick", n)
		}
		if impl.AreStrata(strataOf(200, n)) != (1300 <= n && n <= 1700) {
			t.Error("speed", n)
		}
	}
}

func TestP6TheWrongLayerOfManyIsFound(t *testing.T) {
	for i := range impl.MaxStrata {
		for _, wrong := range wrongLayers() {
			list := manyStrata(impl.MaxStrata)
			list[i] = wrong
			if impl.AreStrata(list) {
				t.Error("valid", list)
			}
			if n, ok := impl.TotalDepth(list); ok || n != 0 {
				t.Error(list, n, ok)
			}
		}
	}
}

func TestP6TotalDepth(t *testing.T) {
	for _, c := range []struct {
		list []impl.Stratum
		want int
	}{
		{strataOf(1, 1300), 1}, {strataOf(5000, 1700), 5000}, {strataOf(200, 1500, 300, 1600), 500},
		{strataOf(1, 1500, 1, 1500, 1, 1500, 1, 1500, 1, 1500), 5},
		{strataOf(5000, 1300, 5000, 1300, 5000, 1300, 5000, 1300, 5000, 1300), 25000},
		{manyStrata(3), 171}, {manyStrata(4), 262}, {manyStrata(5), 370},
	} {
		if n, ok := impl.TotalDepth(c.list); !ok || n != c.want {
			t.Error(c.list, n, ok)
		}
	}
	for _, list := range wrongStrata() {
		if n, ok := impl.TotalDepth(list); ok || n != 0 {
			t.Error(list, n, ok)
		}
	}
}

func TestP6SlopeIn(t *testing.T) {
	two := strataOf(200, 1500, 300, 1600)
	for _, c := range []struct {
		list                       []impl.Stratum
		layer, num, den, side, one int
	}{
		{two, 0, 1, 2, 1, 2}, {two, 1, 1, 2, 8, 15}, {two, 0, 50, 100, 1, 2}, {two, 1, 50, 100, 8, 15},
		{two, 0, 0, 1, 0, 1}, {two, 1, 0, 1, 0, 1}, {two, 0, 0, 100, 0, 1}, {two, 1, 0, 100, 0, 1},
		// The slope is at most 2 in the first layer alone.
		{two, 0, 200, 100, 2, 1}, {two, 1, 200, 100, 32, 15}, {two, 1, 2, 1, 32, 15},
		{strataOf(1, 1300, 1, 1700), 1, 2, 1, 34, 13}, {strataOf(1, 1700, 1, 1300), 1, 2, 1, 26, 17},
		{strataOf(1, 1301, 1, 1699), 1, 199, 100, 338101, 130100},
		// Only the first layer counts beside the one that is asked for.
		{strataOf(5, 1500, 5, 1700, 5, 1500), 2, 7, 13, 7, 13}, {strataOf(5, 1500, 5, 1300, 5, 1600), 2, 1, 1, 16, 15},
		{strataOf(10, 1500, 20, 1510, 30, 1520, 40, 1530, 50, 1540), 4, 1, 1, 77, 75},
		{strataOf(10, 1500, 20, 1510, 30, 1520, 40, 1530, 50, 1540), 3, 1, 1, 51, 50},
	} {
		if side, one, ok := impl.SlopeIn(c.list, c.layer, c.num, c.den); !ok || side != c.side || one != c.one {
			t.Error(c, side, one, ok)
		}
	}
	for _, list := range goodStrata() {
		for layer := range list {
			for _, s := range goodSlopes {
				side, one, ok := impl.SlopeIn(list, layer, s.num, s.den)
				if !ok || !isExactly(side, one, plainSlope(list, layer, s)) {
					t.Error(list, layer, s, side, one, ok)
				}
			}
		}
	}
}

func TestP6SlopeInRefuses(t *testing.T) {
	check := func(list []impl.Stratum, layer, num, den int) {
		if side, one, ok := impl.SlopeIn(list, layer, num, den); ok || side != 0 || one != 0 {
			t.Error(list, layer, num, den, side, one, ok)
		}
	}
	for _, list := range goodStrata() {
		for _, layer := range []int{math.MinInt, -2, -1, len(list), len(list) + 1, 6, 1500, math.MaxInt} {
			check(list, layer, 1, 2)
		}
		for _, s := range wrongSlopes {
			for layer := range list {
				check(list, layer, s.num, s.den)
			}
		}
	}
	for _, list := range wrongStrata() {
		for layer := range list {
			check(list, layer, 1, 2)
		}
		check(list, 0, 1, 2)
	}
}

func TestP6EverySlope(t *testing.T) {
	list := strataOf(200, 1500, 300, 1600)
	for num := -3; num <= 210; num++ {
		for den := -3; den <= 110; den++ {
			valid := 0 <= num && num <= 200 && 1 <= den && den <= 100 && num <= 2*den
			side, one, isSlope := impl.SlopeIn(list, 0, num, den)
			if isSlope != valid || valid && !isExactly(side, one, big.NewRat(int64(num), int64(den))) || !valid && (side != 0 || one != 0) {
				t.Error("slope", num, den, side, one, isSlope)
			}
			run, part, isRun := impl.RunTo(list, num, den, 500)
			if isRun != valid || valid && !isExactly(run, part, big.NewRat(int64(520*num), int64(den))) || !valid && (run != 0 || part != 0) {
				t.Error("run", num, den, run, part, isRun)
			}
		}
	}
}

func TestP6RunTo(t *testing.T) {
	two := strataOf(200, 1500, 300, 1600)
	for _, c := range []struct {
		list                       []impl.Stratum
		num, den, depth, run, part int
	}{
		{two, 1, 2, 500, 260, 1}, {two, 1, 2, 100, 50, 1}, {two, 1, 2, 0, 0, 1}, {two, 1, 2, 1, 1, 2},
		// At the end of a layer and one centimeter beside it.
		{two, 1, 2, 199, 199, 2}, {two, 1, 2, 200, 100, 1}, {two, 1, 2, 201, 1508, 15}, {two, 1, 2, 499, 3892, 15},
		{two, 2, 4, 201, 1508, 15}, {two, 50, 100, 201, 1508, 15}, {two, 2, 1, 500, 1040, 1}, {two, 200, 100, 500, 1040, 1},
		{two, 0, 1, 0, 0, 1}, {two, 0, 1, 200, 0, 1}, {two, 0, 100, 500, 0, 1},
		{strataOf(300, 1600, 200, 1500), 1, 2, 500, 975, 4},
		{strataOf(10, 1500, 20, 1510, 30, 1520, 40, 1530, 50, 1540), 1, 1, 150, 458, 3},
		{strataOf(10, 1500, 20, 1510, 30, 1520, 40, 1530, 50, 1540), 1, 1, 100, 304, 3},
		{strataOf(10, 1500, 20, 1510, 30, 1520, 40, 1530, 50, 1540), 1, 1, 101, 2559, 25},
		{strataOf(10, 1500, 20, 1500, 30, 1500), 1, 3, 50, 50, 3},
		{strataOf(5000, 1300, 5000, 1700, 5000, 1700, 5000, 1700, 5000, 1700), 2, 1, 25000, 810000, 13},
	} {
		if run, part, ok := impl.RunTo(c.list, c.num, c.den, c.depth); !ok || run != c.run || part != c.part {
			t.Error(c, run, part, ok)
		}
	}
	for _, list := range goodStrata() {
		for _, depth := range depthsOf(list) {
			for _, s := range goodSlopes {
				run, part, ok := impl.RunTo(list, s.num, s.den, depth)
				if !ok || !isExactly(run, part, plainRun(list, s, depth)) {
					t.Error(list, s, depth, run, part, ok)
				}
			}
		}
	}
}

func TestP6RunToRefuses(t *testing.T) {
	check := func(list []impl.Stratum, num, den, depth int) {
		if run, part, ok := impl.RunTo(list, num, den, depth); ok || run != 0 || part != 0 {
			t.Error(list, num, den, depth, run, part, ok)
		}
	}
	for _, list := range goodStrata() {
		total := totalOf(list)
		for _, depth := range []int{math.MinInt, -total, -1, total + 1, 2*total + 1, 25001, math.MaxInt} {
			check(list, 1, 2, depth)
			check(list, 0, 1, depth)
		}
		for _, s := range wrongSlopes {
			for _, depth := range depthsOf(list) {
				check(list, s.num, s.den, depth)
			}
		}
	}
	for _, list := range wrongStrata() {
		check(list, 1, 2, 0)
		check(list, 1, 2, 1)
		check(list, 0, 1, 200)
	}
}

func TestP6SlopeFor(t *testing.T) {
	two := strataOf(200, 1500, 300, 1600)
	for _, c := range []struct {
		list          []impl.Stratum
		run, num, den int
	}{
		{two, 260, 1, 2}, {two, 0, 0, 1}, {two, 1, 1, 520}, {two, 520, 1, 1},
		// Just 2 and more than that: what is no slope is told too.
		{two, 1039, 1039, 520}, {two, 1040, 2, 1}, {two, 1041, 1041, 520}, {two, 60000, 1500, 13},
		{strataOf(1, 1300), 0, 0, 1}, {strataOf(1, 1300), 1, 1, 1}, {strataOf(1, 1300), 60000, 60000, 1}, {strataOf(7, 1700), 5, 5, 7},
		{strataOf(1, 1300, 1, 1700), 3, 13, 10}, {strataOf(1, 1700, 1, 1300), 3, 17, 10},
		{strataOf(5000, 1300, 5000, 1300, 5000, 1300, 5000, 1300, 5000, 1300), 50000, 2, 1},
		{strataOf(5000, 1300, 5000, 1300, 5000, 1300, 5000, 1300, 5000, 1300), 60000, 12, 5},
		{strataOf(10, 1500, 20, 1500, 30, 1500), 7, 7, 60},
	} {
		if num, den, ok := impl.SlopeFor(c.list, c.run); !ok || num != c.num || den != c.den {
			t.Error(c, num, den, ok)
		}
	}
	for _, list := range goodStrata() {
		// The run of the ray with the slope 1 tells how much greater a run is than its slope.
		one := plainRun(list, slope{1, 1}, totalOf(list))
		for run := 0; run <= 60000; run += 1 + run/7 {
			num, den, ok := impl.SlopeFor(list, run)
			if !ok || !isExactly(num, den, new(big.Rat).Quo(big.NewRat(int64(run), 1), one)) {
				t.Error(list, run, num, den, ok)
			}
		}
	}
}

func TestP6TheRayForARunHasIt(t *testing.T) {
	runs := 0
	for _, list := range goodStrata() {
		for run := 0; run <= 60000; run++ {
			num, den, ok := impl.SlopeFor(list, run)
			if !ok || num > 200 || den > 100 || num > 2*den {
				continue
			}
			runs++
			if side, part, ok := impl.RunTo(list, num, den, totalOf(list)); !ok || side != run || part != 1 {
				t.Error(list, run, num, den, side, part, ok)
			}
		}
	}
	if runs < 100 {
		t.Error("too few", runs)
	}
}

func TestP6SlopeForRefuses(t *testing.T) {
	for _, run := range []int{math.MinInt, -60000, -1, 60001, math.MaxInt} {
		for _, list := range goodStrata() {
			if num, den, ok := impl.SlopeFor(list, run); ok || num != 0 || den != 0 {
				t.Error(list, run, num, den, ok)
			}
		}
	}
	for _, list := range wrongStrata() {
		for _, run := range []int{0, 1, 60000} {
			if num, den, ok := impl.SlopeFor(list, run); ok || num != 0 || den != 0 {
				t.Error(list, run, num, den, ok)
			}
		}
	}
}

func TestP6DownTime(t *testing.T) {
	two := strataOf(200, 1500, 300, 1600)
	for _, c := range []struct {
		list            []impl.Stratum
		depth, num, den int
	}{
		{two, 500, 77, 24}, {two, 0, 0, 1}, {two, 1, 1, 150}, {two, 150, 1, 1}, {two, 300, 47, 24},
		// At the end of a layer and one centimeter beside it.
		{two, 199, 199, 150}, {two, 200, 4, 3}, {two, 201, 643, 480}, {two, 499, 1537, 480},
		{strataOf(1, 1300), 0, 0, 1}, {strataOf(1, 1300), 1, 1, 130}, {strataOf(1, 1700), 1, 1, 170},
		{strataOf(160, 1600), 160, 1, 1}, {strataOf(300, 1499), 300, 3000, 1499},
		{strataOf(150, 1500, 160, 1600, 130, 1300, 170, 1700, 140, 1400), 750, 5, 1},
		{strataOf(150, 1500, 160, 1600, 130, 1300, 170, 1700, 140, 1400), 610, 4, 1},
		{strataOf(5000, 1300, 5000, 1300, 5000, 1300, 5000, 1300, 5000, 1300), 25000, 2500, 13},
	} {
		if num, den, ok := impl.DownTime(c.list, c.depth); !ok || num != c.num || den != c.den {
			t.Error(c, num, den, ok)
		}
	}
	for _, list := range goodStrata() {
		for _, depth := range depthsOf(list) {
			num, den, ok := impl.DownTime(list, depth)
			if !ok || !isExactly(num, den, plainTime(list, big.NewRat(int64(depth), 1))) {
				t.Error(list, depth, num, den, ok)
			}
		}
	}
}

func TestP6DownTimeRefuses(t *testing.T) {
	check := func(list []impl.Stratum, depth int) {
		if num, den, ok := impl.DownTime(list, depth); ok || num != 0 || den != 0 {
			t.Error(list, depth, num, den, ok)
		}
	}
	for _, list := range goodStrata() {
		total := totalOf(list)
		for _, depth := range []int{math.MinInt, -total, -1, total + 1, 2*total + 1, 25001, math.MaxInt} {
			check(list, depth)
		}
	}
	for _, list := range wrongStrata() {
		check(list, 0)
		check(list, 1)
		check(list, 200)
	}
}

func TestP6DepthAfter(t *testing.T) {
	two := strataOf(200, 1500, 300, 1600)
	ends := strataOf(150, 1500, 160, 1600, 130, 1300, 170, 1700, 140, 1400)
	for _, c := range []struct {
		list           []impl.Stratum
		time, num, den int
	}{
		{two, 0, 0, 1}, {two, 1, 150, 1}, {two, 2, 920, 3}, {two, 3, 1400, 3}, {two, 4, 0, 0}, {two, 200, 0, 0},
		// Just the end of each layer, and just the whole depth.
		{ends, 0, 0, 1}, {ends, 1, 150, 1}, {ends, 2, 310, 1}, {ends, 3, 440, 1}, {ends, 4, 610, 1}, {ends, 5, 750, 1}, {ends, 6, 0, 0},
		{strataOf(150, 1500), 1, 150, 1}, {strataOf(149, 1500), 1, 0, 0}, {strataOf(151, 1500), 1, 150, 1}, {strataOf(151, 1500), 2, 0, 0},
		{strataOf(1, 1300), 0, 0, 1}, {strataOf(1, 1300), 1, 0, 0}, {strataOf(300, 1499), 1, 1499, 10}, {strataOf(300, 1499), 2, 1499, 5},
		{strataOf(149, 1500, 1, 1700), 1, 0, 0}, {strataOf(149, 1500, 2, 1700), 1, 2252, 15}, {strataOf(151, 1500, 2, 1700), 1, 150, 1},
		{strataOf(75, 1500, 75, 1500), 1, 150, 1}, {strataOf(75, 1500, 74, 1500), 1, 0, 0},
		{strataOf(5000, 1300, 5000, 1300, 5000, 1300, 5000, 1300, 5000, 1300), 192, 24960, 1},
		{strataOf(5000, 1300, 5000, 1300, 5000, 1300, 5000, 1300, 5000, 1300), 193, 0, 0},
		{strataOf(5000, 1700, 5000, 1700, 5000, 1700, 5000, 1700, 5000, 1700), 147, 24990, 1},
		{strataOf(5000, 1700, 5000, 1700, 5000, 1700, 5000, 1700, 5000, 1700), 148, 0, 0},
	} {
		if num, den, ok := impl.DepthAfter(c.list, c.time); ok != (c.den > 0) || num != c.num || den != c.den {
			t.Error(c, num, den, ok)
		}
	}
}

func TestP6SoundTakesTheTimeToTheDepth(t *testing.T) {
	for _, list := range goodStrata() {
		total := big.NewRat(int64(totalOf(list)), 1)
		whole := plainTime(list, total)
		for time := range 201 {
			want := big.NewRat(int64(time), 1)
			num, den, ok := impl.DepthAfter(list, time)
			if ok != (want.Cmp(whole) <= 0) || !ok && (num != 0 || den != 0) {
				t.Error(list, time, num, den, ok)
			}
			if !ok {
				continue
			}
			if den < 1 || !isExactly(num, den, big.NewRat(int64(num), int64(den))) {
				t.Fatal("not in lowest terms", list, time, num, den)
			}
			depth := big.NewRat(int64(num), int64(den))
			if depth.Cmp(total) > 0 || plainTime(list, depth).Cmp(want) != 0 {
				t.Error(list, time, num, den)
			}
		}
	}
}

func TestP6DepthAfterRefuses(t *testing.T) {
	for _, time := range []int{math.MinInt, -200, -1, 201, 1500, math.MaxInt} {
		for _, list := range goodStrata() {
			if num, den, ok := impl.DepthAfter(list, time); ok || num != 0 || den != 0 {
				t.Error(list, time, num, den, ok)
			}
		}
	}
	for _, list := range wrongStrata() {
		for _, time := range []int{0, 1, 200} {
			if num, den, ok := impl.DepthAfter(list, time); ok || num != 0 || den != 0 {
				t.Error(list, time, num, den, ok)
			}
		}
	}
}

func TestP6BendOf(t *testing.T) {
	for _, c := range []struct {
		list []impl.Stratum
		want []int
	}{
		{strataOf(1, 1300), nil}, {strataOf(5000, 1700), nil},
		{strataOf(200, 1500, 300, 1600), []int{1}}, {strataOf(300, 1600, 200, 1500), []int{-1}}, {strataOf(300, 1500, 200, 1500), []int{0}},
		{strataOf(5, 1500, 5, 1501), []int{1}}, {strataOf(5, 1501, 5, 1500), []int{-1}},
		// How thick the layers are does not count.
		{strataOf(5000, 1500, 1, 1501), []int{1}}, {strataOf(1, 1501, 5000, 1500), []int{-1}}, {strataOf(5000, 1500, 1, 1500), []int{0}},
		{strataOf(10, 1300, 10, 1700, 10, 1300, 10, 1300, 10, 1400), []int{1, -1, 0, 1}},
		{strataOf(10, 1400, 10, 1400, 10, 1400, 10, 1399, 10, 1398), []int{0, 0, -1, -1}},
		{manyStrata(3), []int{-1, 1}}, {manyStrata(5), []int{-1, 1, -1, 1}},
	} {
		if bends, ok := impl.BendOf(c.list); !ok || !slices.Equal(bends, c.want) {
			t.Error(c, bends, ok)
		}
	}
	for _, list := range wrongStrata() {
		if bends, ok := impl.BendOf(list); ok || len(bends) != 0 {
			t.Error(list, bends, ok)
		}
	}
}

func TestP6TheRayBendsAsTold(t *testing.T) {
	for _, list := range goodStrata() {
		bends, ok := impl.BendOf(list)
		if !ok || len(bends) != len(list)-1 {
			t.Fatal(list, bends, ok)
		}
		for i, bend := range bends {
			for _, s := range goodSlopes {
				want := plainSlope(list, i+1, s).Cmp(plainSlope(list, i, s))
				if s.num > 0 && bend != want || s.num == 0 && want != 0 {
					t.Error(list, i, s, bend)
				}
			}
		}
	}
}

func TestP6SplitStrata(t *testing.T) {
	two := strataOf(200, 1500, 300, 1600)
	four := strataOf(10, 1500, 20, 1510, 30, 1520, 40, 1530)
	five := strataOf(10, 1500, 20, 1510, 30, 1520, 40, 1530, 50, 1540)
	for _, c := range []struct {
		list  []impl.Stratum
		depth int
		want  []impl.Stratum
	}{
		{two, 250, strataOf(200, 1500, 50, 1600, 250, 1600)}, {two, 1, strataOf(1, 1500, 199, 1500, 300, 1600)},
		{two, 100, strataOf(100, 1500, 100, 1500, 300, 1600)}, {two, 499, strataOf(200, 1500, 299, 1600, 1, 1600)},
		// At the end of a layer and one centimeter beside it.
		{two, 199, strataOf(199, 1500, 1, 1500, 300, 1600)}, {two, 200, two}, {two, 201, strataOf(200, 1500, 1, 1600, 299, 1600)},
		{strataOf(2, 1400), 1, strataOf(1, 1400, 1, 1400)}, {strataOf(5000, 1400), 4999, strataOf(4999, 1400, 1, 1400)},
		{strataOf(1, 1400, 1, 1400), 1, strataOf(1, 1400, 1, 1400)},
		// One that makes the most layers, and one that would make too many.
		{four, 5, strataOf(5, 1500, 5, 1500, 20, 1510, 30, 1520, 40, 1530)}, {four, 99, strataOf(10, 1500, 20, 1510, 30, 1520, 39, 1530, 1, 1530)},
		{four, 60, four}, {five, 5, nil}, {five, 9, nil}, {five, 10, five}, {five, 11, nil}, {five, 30, five}, {five, 60, five}, {five, 99, nil},
		{five, 100, five}, {five, 101, nil}, {five, 149, nil},
		// The whole depth and the surface divide nothing.
		{two, 0, nil}, {two, 500, nil}, {two, 501, nil}, {strataOf(1, 1400), 1, nil}, {strataOf(1, 1400), 0, nil}, {five, 0, nil}, {five, 150, nil},
	} {
		split, ok := impl.SplitStrata(c.list, c.depth)
		if ok != (len(c.want) > 0) || !slices.Equal(split, c.want) {
			t.Error(c, split, ok)
		}
	}
}

// plainSplit is, by the document's words, the layers with one of them divided at a depth, however many there are.
func plainSplit(list []impl.Stratum, depth int) []impl.Stratum {
	ends := endsOf(list)
	if slices.Contains(ends, depth) {
		return slices.Clone(list)
	}
	at := slices.IndexFunc(ends, func(end int) bool { return end > depth })
	upper, lower := list[at], list[at]
	lower.Thick = ends[at] - depth
	upper.Thick -= lower.Thick
	return slices.Replace(slices.Clone(list), at, at+1, upper, lower)
}

func TestP6SplitAtEveryDepth(t *testing.T) {
	for _, list := range goodStrata() {
		total := totalOf(list)
		for depth := 1; depth < total; depth++ {
			want := plainSplit(list, depth)
			split, ok := impl.SplitStrata(list, depth)
			if ok != (len(want) <= 5) || ok && !slices.Equal(split, want) || !ok && len(split) != 0 {
				t.Error(list, depth, split, ok)
			}
		}
		for _, depth := range []int{math.MinInt, -total, -1, 0, total, total + 1, 2 * total, 25000, math.MaxInt} {
			if split, ok := impl.SplitStrata(list, depth); ok || len(split) != 0 {
				t.Error(list, depth, split, ok)
			}
		}
	}
	for _, list := range wrongStrata() {
		for _, depth := range []int{0, 1, 100, 200} {
			if split, ok := impl.SplitStrata(list, depth); ok || len(split) != 0 {
				t.Error(list, depth, split, ok)
			}
		}
	}
}

func TestP6DividingALayerChangesNoRun(t *testing.T) {
	splits := 0
	for _, list := range goodStrata() {
		for _, at := range depthsOf(list) {
			split, ok := impl.SplitStrata(list, at)
			if !ok {
				continue
			}
			splits++
			checkSameRays(t, list, split)
			// Divided once more, if there is room for it.
			if again, ok := impl.SplitStrata(split, (at+1)/2); ok {
				checkSameRays(t, list, again)
			}
		}
	}
	if splits < 100 {
		t.Error("too few", splits)
	}
}

// checkSameRays tells whether rays and sound run in a list, of which a layer was divided, as they did before.
func checkSameRays(t *testing.T, list, split []impl.Stratum) {
	t.Helper()
	depths := depthsOf(split)
	if totalOf(split) != totalOf(list) {
		t.Fatal("depth", list, split)
	}
	for _, s := range goodSlopes {
		for _, depth := range depths {
			a, b, isBefore := impl.RunTo(list, s.num, s.den, depth)
			c, d, isBehind := impl.RunTo(split, s.num, s.den, depth)
			if !isBefore || !isBehind || a != c || b != d {
				t.Error("run", list, split, s, depth, a, b, c, d)
			}
		}
	}
	for _, depth := range depths {
		a, b, isBefore := impl.DownTime(list, depth)
		c, d, isBehind := impl.DownTime(split, depth)
		if !isBefore || !isBehind || a != c || b != d {
			t.Error("time", list, split, depth, a, b, c, d)
		}
	}
	for _, n := range []int{0, 1, 2, 3, 7, 100, 147, 192, 193, 200} {
		a, b, isBefore := impl.DepthAfter(list, n)
		c, d, isBehind := impl.DepthAfter(split, n)
		if isBefore != isBehind || a != c || b != d {
			t.Error("after", list, split, n, a, b, c, d)
		}
		a, b, isBefore = impl.SlopeFor(list, 300*n)
		c, d, isBehind = impl.SlopeFor(split, 300*n)
		if !isBefore || !isBehind || a != c || b != d {
			t.Error("slope for", list, split, 300*n, a, b, c, d)
		}
	}
}

func TestP29RayFunctionsLeaveTheirArguments(t *testing.T) {
	// What lies behind the length of the list is neither read nor written.
	whole := append(manyStrata(4), impl.Stratum{Thick: -5, Speed: 7}, impl.Stratum{Thick: 1, Speed: 1}, impl.Stratum{Thick: 200, Speed: 1500})
	before := slices.Clone(whole)
	for size := range len(whole) + 1 {
		list := whole[:size]
		valid := 1 <= size && size <= 4
		if impl.AreStrata(list) != valid {
			t.Error("AreStrata", size)
		}
		if n, ok := impl.TotalDepth(list); ok != valid || valid && n != totalOf(before[:size]) {
			t.Error("TotalDepth", size, n)
		}
		if a, b, ok := impl.SlopeIn(list, 0, 1, 2); ok != valid || valid && (a != 1 || b != 2) {
			t.Error("SlopeIn", size, a, b)
		}
		if a, b, ok := impl.RunTo(list, 1, 2, 40); ok != valid || valid && (a != 20 || b != 1) {
			t.Error("RunTo", size, a, b)
		}
		if a, b, ok := impl.SlopeFor(list, 0); ok != valid || valid && (a != 0 || b != 1) {
			t.Error("SlopeFor", size, a, b)
		}
		if a, b, ok := impl.DownTime(list, 30); ok != valid || valid && (a != 1 || b != 5) {
			t.Error("DownTime", size, a, b)
		}
		if a, b, ok := impl.DepthAfter(list, 0); ok != valid || valid && (a != 0 || b != 1) {
			t.Error("DepthAfter", size, a, b)
		}
		if bends, ok := impl.BendOf(list); ok != valid || valid && len(bends) != size-1 {
			t.Error("BendOf", size, bends)
		}
		for _, depth := range []int{1, 39, 40, 96, 97, 170, 171} {
			want := valid && depth < totalOf(before[:size])
			if split, ok := impl.SplitStrata(list, depth); ok != want || want && !slices.Equal(split, plainSplit(before[:size], depth)) {
				t.Error("SplitStrata", size, depth, split)
			}
		}
	}
	if !slices.Equal(whole, before) {
		t.Error("the layers are now", whole)
	}
}

func TestP29RayResultsShareNothing(t *testing.T) {
	// The list has room behind its length, in which no result may lie.
	room := make([]impl.Stratum, 3, 10)
	copy(room, manyStrata(3))
	// In the middle of a layer, and at the end of one.
	for _, depth := range []int{20, 40, 60, 97, 120} {
		split, _ := impl.SplitStrata(room, depth)
		other, _ := impl.SplitStrata(room, depth)
		want := plainSplit(manyStrata(3), depth)
		if !slices.Equal(split, want) || !slices.Equal(other, want) {
			t.Fatal("not split", split, other)
		}
		for i := range split {
			split[i] = impl.Stratum{Thick: -7}
		}
		_ = append(split, impl.Stratum{Thick: -8})
		if !slices.Equal(other, want) {
			t.Error("the other result is now", other)
		}
	}
	bends, _ := impl.BendOf(room)
	if !slices.Equal(bends, []int{-1, 1}) {
		t.Fatal("bends", bends)
	}
	bends[0], bends[1] = -7, -7
	if again, ok := impl.BendOf(room); !ok || !slices.Equal(again, []int{-1, 1}) {
		t.Error("the bends are now", again)
	}
	if !slices.Equal(room[:10], append(manyStrata(3), make([]impl.Stratum, 7)...)) {
		t.Error("the layers are now", room[:10])
	}
}

func TestP29RayFunctionsReturnForAllArguments(t *testing.T) {
	numbers := []int{math.MinInt, -1, 0, 1, 2, 100, 200, 201, 1300, 1500, 1700, 5000, 25000, 60000, 60001, math.MaxInt}
	for _, a := range numbers {
		for _, b := range numbers {
			for _, c := range numbers {
				checkRays(t, strataOf(a, b), a, b, c)
				checkRays(t, strataOf(a, 1500, 200, b), c, a, b)
				checkRays(t, strataOf(200, a, b, 1500, c, 1600), b, c, a)
				checkRays(t, manyStrata(5), a, b, c)
				checkRays(t, manyStrata(6), a, b, c)
				checkRays(t, nil, a, b, c)
			}
		}
	}
}

// checkRays tells whether the functions of a list return something only if they succeed.
func checkRays(t *testing.T, list []impl.Stratum, a, b, c int) {
	t.Helper()
	valid := impl.AreStrata(list)
	check := func(name string, num, den int, ok bool) {
		t.Helper()
		if ok && (!valid || num < 0 || den < 1) || !ok && (num != 0 || den != 0) {
			t.Error(name, list, a, b, c, num, den, ok)
		}
	}
	num, den, ok := impl.SlopeIn(list, a, b, c)
	check("slope", num, den, ok)
	num, den, ok = impl.RunTo(list, a, b, c)
	check("run", num, den, ok)
	num, den, ok = impl.SlopeFor(list, a)
	check("slope for", num, den, ok)
	num, den, ok = impl.DownTime(list, a)
	check("time", num, den, ok)
	num, den, ok = impl.DepthAfter(list, a)
	check("after", num, den, ok)
	if n, ok := impl.TotalDepth(list); ok != valid || !ok && n != 0 {
		t.Error("depth", list, n)
	}
	if bends, ok := impl.BendOf(list); ok != valid || !ok && len(bends) != 0 {
		t.Error("bends", list, bends)
	}
	if split, ok := impl.SplitStrata(list, a); ok && (!valid || !impl.AreStrata(split)) || !ok && len(split) != 0 {
		t.Error("split", list, a, split)
	}
}
