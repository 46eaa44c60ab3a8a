package tests

import (
	"math"
	"slices"
	"testing"

	"loop.example/g01031/impl"
)

// wrongTides are beyond a limit, by one or by far.
var wrongTides = []impl.Tide{
	{Time: -1}, {Time: impl.MaxTime + 1}, {Time: math.MinInt}, {Time: math.MaxInt},
	{Time: 5, Level: -1001}, {Time: 5, Level: 2001}, {Time: 5, Level: math.MinInt}, {Time: 5, Level: math.MaxInt},
	{Time: -1, Level: 2001},
}

// wrongTimes are beyond a limit, by one or by far.
var wrongTimes = []int{math.MinInt, -1, impl.MaxTime + 1, math.MaxInt}

// tidesOf makes Tides of pairs of a Time and a Level.
func tidesOf(numbers ...int) []impl.Tide {
	list := []impl.Tide{}
	for i := 0; i+1 < len(numbers); i += 2 {
		list = append(list, impl.Tide{Time: numbers[i], Level: numbers[i+1]})
	}
	return list
}

// manyTides are Tides at the Times 0, 13, 26 and so on, with Levels that rise and fall.
func manyTides(count int) []impl.Tide {
	list := []impl.Tide{}
	for i := range count {
		list = append(list, impl.Tide{Time: 13 * i, Level: 7*i*i - 61*i + 50})
	}
	return list
}

// goodCurves are at the limits or within them.
func goodCurves() [][]impl.Tide {
	return [][]impl.Tide{
		tidesOf(0, 0), tidesOf(500, -3), tidesOf(0, -1000), tidesOf(impl.MaxTime, 2000),
		tidesOf(5, 1, 6, 1), tidesOf(5, 1, 6, -1), tidesOf(10, -1000, 70, 2000), tidesOf(10, 2000, 71, -1000),
		tidesOf(0, 5, impl.MaxTime, -5), tidesOf(3, -7, 5, -8, 8, -9), tidesOf(0, 0, 7, 0, 67, 100, 128, 100, 130, 3),
		tidesOf(9940, 17, impl.MaxTime, 2000), tidesOf(9800, 1, 9860, 2, 9921, 4, 9999, 5, impl.MaxTime, -1000),
		manyTides(impl.MaxTides - 1), manyTides(impl.MaxTides),
	}
}

// wrongCurves are empty, too long, beyond a limit or out of order.
func wrongCurves() [][]impl.Tide {
	lists := [][]impl.Tide{
		nil, {}, manyTides(impl.MaxTides + 1), manyTides(50),
		tidesOf(5, 1, 5, 1), tidesOf(5, 1, 5, 2), tidesOf(6, 1, 5, 1), tidesOf(1, 1, 5, 1, 4, 1),
		tidesOf(1, 1, 5, 1, 5, 1, 6, 1), tidesOf(5, 1, 1, 1, 6, 1), tidesOf(0, 1, 60, 1, 0, 1),
	}
	for _, wrong := range wrongTides {
		lists = append(lists, []impl.Tide{wrong}, []impl.Tide{{Time: 1}, wrong},
			[]impl.Tide{{Time: 1}, wrong, {Time: 20}}, []impl.Tide{wrong, {Time: 20}})
	}
	return lists
}

// plainLevel is, by the document's words, the level of a curve at a time, as a fraction that need not be in lowest terms.
func plainLevel(list []impl.Tide, time int) (int, int, bool) {
	for i, t := range list {
		if t.Time == time {
			return t.Level, 1, true
		}
		if i == 0 || time < list[i-1].Time || t.Time < time || t.Time-list[i-1].Time > 60 {
			continue
		}
		before := list[i-1]
		return before.Level*(t.Time-time) + t.Level*(time-before.Time), t.Time - before.Time, true
	}
	return 0, 0, false
}

// isFraction tells whether num/den is in lowest terms and equal to a/b.
func isFraction(num, den, a, b int) bool {
	return den > 0 && num*b == a*den && commonDivisor(num, den) == 1
}

func TestP4IsTideCurve(t *testing.T) {
	for _, list := range goodCurves() {
		if !impl.IsTideCurve(list) {
			t.Error("not valid", list)
		}
	}
	for _, list := range wrongCurves() {
		if impl.IsTideCurve(list) {
			t.Error("valid", list)
		}
	}
	for count := range 30 {
		if impl.IsTideCurve(manyTides(count)) != (1 <= count && count <= 12) {
			t.Error("count", count)
		}
	}
	// A gap is no fault of a curve.
	for gap := 1; gap <= 200; gap++ {
		if !impl.IsTideCurve(tidesOf(100, 0, 100+gap, 0)) {
			t.Error("gap", gap)
		}
	}
}

func TestP4TheWrongTideOfALongCurveIsFound(t *testing.T) {
	for i := range impl.MaxTides {
		for _, change := range []func(*impl.Tide){
			func(x *impl.Tide) { x.Level = -1001 }, func(x *impl.Tide) { x.Level = 2001 },
			func(x *impl.Tide) { x.Time = -1 }, func(x *impl.Tide) { x.Time = impl.MaxTime + 1 },
			func(x *impl.Tide) { x.Time += 13 * (1 - 2*(i%2)) },
		} {
			list := manyTides(impl.MaxTides)
			change(&list[i])
			if impl.IsTideCurve(list) {
				t.Error("valid", list)
			}
			if num, den, ok := impl.LevelAt(list, 0); ok || num != 0 || den != 0 {
				t.Error(list, num, den, ok)
			}
		}
	}
}

func TestP4LevelAt(t *testing.T) {
	for _, c := range []struct {
		list           []impl.Tide
		time, num, den int
	}{
		{tidesOf(0, 0), 0, 0, 1}, {tidesOf(500, -3), 500, -3, 1}, {tidesOf(impl.MaxTime, 2000), impl.MaxTime, 2000, 1},
		{tidesOf(0, -1000), 0, -1000, 1},
		// At a Tide, also at one between two others or beside a gap.
		{tidesOf(0, 100, 60, 190, 121, 100), 0, 100, 1}, {tidesOf(0, 100, 60, 190, 121, 100), 60, 190, 1},
		{tidesOf(0, 100, 60, 190, 121, 100), 121, 100, 1}, {tidesOf(5, 1, 10, -6, 15, 7), 10, -6, 1},
		// Between two Tides: whole, by halves and by sixtieths.
		{tidesOf(0, 100, 60, 190), 20, 130, 1}, {tidesOf(0, 100, 60, 190), 7, 221, 2}, {tidesOf(0, 100, 60, 190), 1, 203, 2},
		{tidesOf(0, 0, 60, 1), 1, 1, 60}, {tidesOf(0, 0, 60, 1), 59, 59, 60}, {tidesOf(0, 0, 60, 1), 30, 1, 2},
		{tidesOf(0, 0, 60, 1), 24, 2, 5}, {tidesOf(100, 5, 107, 6), 103, 38, 7}, {tidesOf(100, 6, 107, 5), 103, 39, 7},
		// On a flat part.
		{tidesOf(0, 77, 60, 77), 31, 77, 1}, {tidesOf(0, 0, 60, 0), 31, 0, 1}, {tidesOf(0, -77, 59, -77), 58, -77, 1},
		// Negative levels, and through 0.
		{tidesOf(0, 0, 60, -1), 1, -1, 60}, {tidesOf(0, 0, 60, -1), 40, -2, 3}, {tidesOf(0, -10, 3, -9), 1, -29, 3},
		{tidesOf(0, -9, 3, -10), 1, -28, 3}, {tidesOf(0, -5, 2, 5), 1, 0, 1}, {tidesOf(0, 30, 60, -30), 30, 0, 1},
		{tidesOf(0, -1000, 60, 2000), 20, 0, 1}, {tidesOf(0, -1000, 60, 2000), 1, -950, 1}, {tidesOf(0, -1000, 59, 2000), 1, -56000, 59},
		{tidesOf(0, 2000, 59, -1000), 1, 115000, 59},
		// In a later part the earlier ones do not count.
		{tidesOf(0, 900, 60, 0, 120, 6, 180, 900), 110, 5, 1}, {tidesOf(0, 900, 200, 0, 260, 6, 500, 900), 250, 5, 1},
		{tidesOf(9940, 0, impl.MaxTime, 60), 9999, 59, 1},
	} {
		if num, den, ok := impl.LevelAt(c.list, c.time); !ok || num != c.num || den != c.den {
			t.Error(c.list, c.time, num, den, ok)
		}
	}
}

func TestP4LevelAtEveryMinute(t *testing.T) {
	for _, list := range goodCurves() {
		for time := range impl.MaxTime + 1 {
			a, b, isThere := plainLevel(list, time)
			num, den, ok := impl.LevelAt(list, time)
			if ok != isThere || ok && !isFraction(num, den, a, b) || !ok && (num != 0 || den != 0) {
				t.Error(list, time, num, den, ok)
			}
		}
	}
}

func TestP4NoLevelInAGap(t *testing.T) {
	for gap := 2; gap <= 130; gap++ {
		list := tidesOf(1000, 10, 1000+gap, 40, 1001+gap, 50)
		for time := 995; time <= 1005+gap; time++ {
			num, den, ok := impl.LevelAt(list, time)
			isTide := time == 1000 || time == 1000+gap || time == 1001+gap
			isBetween := time > 1000 && time < 1000+gap && gap <= 60
			if ok != (isTide || isBetween) || !ok && (num != 0 || den != 0) {
				t.Error(gap, time, num, den, ok)
			}
		}
	}
	// Before the first and behind the last Tide there is none, however near.
	for _, list := range [][]impl.Tide{tidesOf(50, 1), tidesOf(50, 1, 51, 2), tidesOf(50, 1, 110, 2), tidesOf(50, 1, 111, 2)} {
		last := list[len(list)-1].Time
		for _, time := range []int{0, 48, 49, last + 1, last + 2, last + 60, impl.MaxTime} {
			if num, den, ok := impl.LevelAt(list, time); ok || num != 0 || den != 0 {
				t.Error(list, time, num, den, ok)
			}
		}
	}
}

func TestP4LevelAtRefuses(t *testing.T) {
	for _, time := range wrongTimes {
		for _, list := range goodCurves() {
			if num, den, ok := impl.LevelAt(list, time); ok || num != 0 || den != 0 {
				t.Error(list, time, num, den, ok)
			}
		}
	}
	for _, list := range wrongCurves() {
		for _, x := range append(list, impl.Tide{}, impl.Tide{Time: 3}) {
			if num, den, ok := impl.LevelAt(list, x.Time); ok || num != 0 || den != 0 {
				t.Error(list, x, num, den, ok)
			}
		}
	}
}

func TestP4ReducedDepth(t *testing.T) {
	for _, c := range []struct {
		list              []impl.Tide
		depth, time, want int
	}{
		{tidesOf(0, 0), 0, 0, 0}, {tidesOf(0, 0), 30000, 0, 30000}, {tidesOf(0, 1), 30000, 0, 29999},
		{tidesOf(0, -1000), 30000, 0, 31000}, {tidesOf(0, 2000), 0, 0, -2000}, {tidesOf(0, 130), 130, 0, 0},
		// Levels that are not whole: down, also below the datum.
		{tidesOf(0, 100, 60, 190), 1000, 7, 889}, {tidesOf(0, 100, 60, 190), 110, 7, -1}, {tidesOf(0, 100, 60, 190), 111, 7, 0},
		{tidesOf(0, 100, 60, 190), 0, 7, -111}, {tidesOf(0, 100, 60, 190), 0, 20, -130},
		{tidesOf(0, 0, 60, 1), 5, 1, 4}, {tidesOf(0, 0, 60, 1), 5, 59, 4}, {tidesOf(0, 0, 60, 1), 0, 1, -1}, {tidesOf(0, 0, 60, 1), 0, 59, -1},
		{tidesOf(0, 0, 60, -1), 5, 1, 5}, {tidesOf(0, 0, 60, -1), 5, 59, 5}, {tidesOf(0, 0, 60, -1), 0, 1, 0}, {tidesOf(0, 0, 60, -1), 0, 60, 1},
		{tidesOf(0, -10, 3, -9), 0, 1, 9}, {tidesOf(0, -10, 3, -9), 7, 2, 16},
		// Whole ones stay, on both sides of 0.
		{tidesOf(0, -5, 2, 5), 0, 1, 0}, {tidesOf(0, 2, 2, 4), 3, 1, 0}, {tidesOf(0, 2, 2, 4), 2, 1, -1}, {tidesOf(0, 2, 2, 4), 4, 1, 1},
		{tidesOf(0, 2, 2, 5), 3, 1, -1}, {tidesOf(0, 2, 2, 5), 4, 1, 0}, {tidesOf(0, 2, 2, 5), 0, 1, -4},
		// At the limit of MaxTideGap.
		{tidesOf(40, 0, 100, 600), 1000, 41, 990}, {tidesOf(40, 0, 101, 610), 1000, 101, 390},
	} {
		if n, ok := impl.ReducedDepth(c.list, c.depth, c.time); !ok || n != c.want {
			t.Error(c.list, c.depth, c.time, n, ok)
		}
	}
}

func TestP4ReducedDepthOfEveryMinute(t *testing.T) {
	for _, list := range goodCurves() {
		for time := range impl.MaxTime + 1 {
			num, den, isThere := plainLevel(list, time)
			for _, depth := range []int{0, 1, 13, 29999, 30000} {
				n, ok := impl.ReducedDepth(list, depth, time)
				if ok != isThere || !ok && n != 0 {
					t.Error(list, depth, time, n, ok)
				}
				// The greatest whole number that is at most the difference.
				if ok && (n*den > depth*den-num || (n+1)*den <= depth*den-num) {
					t.Error(list, depth, time, n, num, den)
				}
			}
		}
	}
}

func TestP4ReducedDepthRefuses(t *testing.T) {
	for _, depth := range []int{math.MinInt, -1, 30001, math.MaxInt} {
		for _, list := range goodCurves() {
			if n, ok := impl.ReducedDepth(list, depth, list[0].Time); ok || n != 0 {
				t.Error(list, depth, n, ok)
			}
		}
	}
	// Before the first Tide, in a gap, behind the last one, and no times.
	for _, time := range append([]int{99, 101, 160, 222, 230}, wrongTimes...) {
		if n, ok := impl.ReducedDepth(tidesOf(100, 1, 161, 1, 221, 1), 500, time); ok || n != 0 {
			t.Error(time, n, ok)
		}
	}
	for _, list := range wrongCurves() {
		for _, x := range append(list, impl.Tide{}) {
			if n, ok := impl.ReducedDepth(list, 500, x.Time); ok || n != 0 {
				t.Error(list, x, n, ok)
			}
		}
	}
}

func TestP4AHigherLevelNeverMakesAReducedDepthGreater(t *testing.T) {
	// One Tide is set higher bit by bit, at the time of a level between it and its neighbour.
	for _, minutes := range []int{1, 2, 7, 59, 60} {
		for _, low := range []int{-1000, -1, 0, 333} {
			for time := range minutes + 1 {
				last, isFirst := 0, true
				for high := -1000; high <= 2000; high += 31 {
					n, ok := impl.ReducedDepth(tidesOf(0, low, minutes, high), 700, time)
					if !ok || !isFirst && n > last {
						t.Error(minutes, low, high, time, n, last, ok)
					}
					last, isFirst = n, false
				}
			}
		}
	}
}

func TestP4RaisedTidesMakeNoReducedDepthGreater(t *testing.T) {
	for _, list := range goodCurves() {
		for _, by := range []int{0, 1, 2, 30, 999, 1950} {
			raised, isCurve := impl.RaiseTides(list, by)
			if !isCurve {
				continue
			}
			for time := list[0].Time; time <= list[len(list)-1].Time; time++ {
				low, isThere := impl.ReducedDepth(list, 800, time)
				high, isStill := impl.ReducedDepth(raised, 800, time)
				if isThere != isStill || isThere && high != low-by {
					t.Error(list, by, time, low, high)
				}
			}
		}
	}
}

func TestP4LevelBetween(t *testing.T) {
	slope := tidesOf(0, 100, 60, 190, 121, 100)
	for _, c := range []struct {
		a, b                 []impl.Tide
		x, y, time, num, den int
	}{
		{slope, tidesOf(20, 160), 100, 200, 20, 140, 1},
		// The nearer gauge weighs more.
		{tidesOf(5, 0), tidesOf(5, 100), 1, 3, 5, 25, 1}, {tidesOf(5, 0), tidesOf(5, 100), 3, 1, 5, 75, 1},
		{tidesOf(5, 0), tidesOf(5, 100), 1, 1, 5, 50, 1}, {tidesOf(5, 0), tidesOf(5, 1), 1, 1, 5, 1, 2},
		{tidesOf(5, 0), tidesOf(5, 1), 1, 10000, 5, 1, 10001}, {tidesOf(5, 0), tidesOf(5, 1), 10000, 1, 5, 10000, 10001},
		{tidesOf(5, 0), tidesOf(5, 1), 10000, 10000, 5, 1, 2}, {tidesOf(5, 1), tidesOf(5, 0), 9999, 1, 5, 1, 10000},
		{tidesOf(5, -1), tidesOf(5, 0), 1, 2, 5, -2, 3}, {tidesOf(5, 0), tidesOf(5, -1), 1, 2, 5, -1, 3},
		{tidesOf(5, -10), tidesOf(5, 20), 1, 2, 5, 0, 1}, {tidesOf(5, 0), tidesOf(5, 0), 123, 456, 5, 0, 1},
		{tidesOf(5, 77), tidesOf(5, 77), 123, 456, 5, 77, 1}, {tidesOf(5, -1000), tidesOf(5, 2000), 10000, 5000, 5, 1000, 1},
		// Both or one of the levels are not whole.
		{tidesOf(0, 0, 2, 1), tidesOf(0, 0, 3, 1), 1, 1, 1, 5, 12}, {tidesOf(0, 0, 2, 1), tidesOf(0, 0, 3, 1), 3, 2, 1, 2, 5},
		{slope, tidesOf(0, 0, 60, 1), 1, 1, 7, 6637, 120}, {slope, tidesOf(7, 0), 1, 3, 7, 663, 8}, {tidesOf(7, 0), slope, 1, 3, 7, 221, 8},
		{tidesOf(0, 0, 59, 1), tidesOf(0, 0, 60, 1), 9999, 10000, 1, 396647, 23598820},
		{tidesOf(0, 2000, 59, 1999), tidesOf(0, 2000, 60, 1999), 9999, 10000, 1, 2000*23598820 - 396647, 23598820},
		{tidesOf(0, -1, 2, 0), tidesOf(0, 0, 2, 1), 1, 1, 1, 0, 1},
	} {
		if num, den, ok := impl.LevelBetween(c.a, c.b, c.x, c.y, c.time); !ok || num != c.num || den != c.den {
			t.Error(c, num, den, ok)
		}
		if num, den, ok := impl.LevelBetween(c.b, c.a, c.y, c.x, c.time); !ok || num != c.num || den != c.den {
			t.Error("exchanged", c, num, den, ok)
		}
	}
}

func TestP4LevelBetweenAllCurves(t *testing.T) {
	for _, a := range goodCurves() {
		for _, b := range goodCurves() {
			for _, place := range [][2]int{{1, 1}, {1, 10000}, {10000, 1}, {12, 18}, {997, 9973}} {
				for _, time := range []int{0, 3, 4, 5, 13, 20, 31, 64, 67, 68, 9941, 9999, impl.MaxTime} {
					n, d, isFirst := plainLevel(a, time)
					m, e, isSecond := plainLevel(b, time)
					num, den, ok := impl.LevelBetween(a, b, place[0], place[1], time)
					if ok != (isFirst && isSecond) || !ok && (num != 0 || den != 0) {
						t.Error(a, b, place, time, num, den, ok)
					}
					sum, parts := place[1]*n*e+place[0]*m*d, (place[0]+place[1])*d*e
					if ok && (den < 1 || num*parts != sum*den || parts%den != 0 || isReducible(num, den)) {
						t.Error(a, b, place, time, num, den)
					}
				}
			}
		}
	}
}

// isReducible tells whether a number greater than 1 divides both; den must be positive.
func isReducible(num, den int) bool {
	if num == 0 {
		return den > 1
	}
	for n := 2; n*n <= den; n++ {
		if den%n == 0 && (num%n == 0 || num%(den/n) == 0) {
			return true
		}
	}
	return den > 1 && num%den == 0
}

func TestP4LevelBetweenRefuses(t *testing.T) {
	one, other := tidesOf(0, 100, 60, 190), tidesOf(10, 50, 70, 20, 131, 20)
	for _, n := range []int{math.MinInt, -1, 0, 10001, math.MaxInt} {
		for _, place := range [][2]int{{n, 5}, {5, n}, {n, n}} {
			if num, den, ok := impl.LevelBetween(one, other, place[0], place[1], 20); ok || num != 0 || den != 0 {
				t.Error(place, num, den, ok)
			}
		}
	}
	for _, place := range [][2]int{{1, 10000}, {10000, 1}} {
		if _, _, ok := impl.LevelBetween(one, other, place[0], place[1], 20); !ok {
			t.Error(place)
		}
	}
	// Only one of both has a level, or neither.
	for _, time := range append([]int{0, 9, 61, 70, 71, 130, 131, 132}, wrongTimes...) {
		if num, den, ok := impl.LevelBetween(one, other, 5, 5, time); ok || num != 0 || den != 0 {
			t.Error(time, num, den, ok)
		}
		if num, den, ok := impl.LevelBetween(other, one, 5, 5, time); ok || num != 0 || den != 0 {
			t.Error("exchanged", time, num, den, ok)
		}
	}
	for _, list := range wrongCurves() {
		for _, pair := range [][2][]impl.Tide{{list, tidesOf(5, 1)}, {tidesOf(5, 1), list}, {list, list}} {
			if num, den, ok := impl.LevelBetween(pair[0], pair[1], 5, 5, 5); ok || num != 0 || den != 0 {
				t.Error(pair, num, den, ok)
			}
		}
	}
}

func TestP4HighestLevel(t *testing.T) {
	wave := tidesOf(0, 0, 60, 90, 120, 90, 180, -90, 240, 5)
	for _, c := range []struct {
		list               []impl.Tide
		from, to, num, den int
	}{
		{tidesOf(500, -3), 500, 500, -3, 1}, {tidesOf(0, -1000), 0, 0, -1000, 1}, {tidesOf(impl.MaxTime, 0), impl.MaxTime, impl.MaxTime, 0, 1},
		// On a rising part the last minute has it, on a falling one the first.
		{wave, 0, 59, 177, 2}, {wave, 7, 13, 39, 2}, {wave, 130, 140, 60, 1}, {tidesOf(0, 0, 60, -7), 31, 50, -217, 60},
		{tidesOf(0, -7, 60, 0), 31, 50, -7, 6}, {wave, 0, 60, 90, 1}, {wave, 120, 180, 90, 1},
		// On a flat one each.
		{wave, 70, 110, 90, 1}, {wave, 60, 120, 90, 1}, {tidesOf(0, -4, 60, -4), 3, 9, -4, 1}, {tidesOf(0, 0, 60, 0), 3, 9, 0, 1},
		// From one minute to itself.
		{wave, 0, 0, 0, 1}, {wave, 7, 7, 21, 2}, {wave, 60, 60, 90, 1}, {wave, 90, 90, 90, 1}, {wave, 180, 180, -90, 1}, {wave, 150, 150, 0, 1},
		{wave, 240, 240, 5, 1}, {wave, 239, 239, 41, 12},
		// Over a peak and over a hollow.
		{wave, 0, 240, 90, 1}, {wave, 50, 130, 90, 1}, {wave, 160, 200, -30, 1}, {wave, 178, 238, 11, 6}, {wave, 179, 181, -87, 1},
		{wave, 170, 240, 5, 1}, {tidesOf(0, 0, 3, 5, 6, 0), 1, 5, 5, 1}, {tidesOf(0, 1, 3, 0, 6, 1), 1, 5, 2, 3}, {tidesOf(0, 2, 3, 0, 6, 1), 1, 5, 4, 3},
		// Close to each other.
		{tidesOf(0, 0, 59, 59, 60, 0, 120, 60), 58, 119, 59, 1}, {tidesOf(0, 1, 59, 0, 60, -1, 120, 0), 1, 119, 58, 59},
		{tidesOf(0, 2, 1, 0, 3, 5), 1, 2, 5, 2}, {tidesOf(0, 5, 2, 0, 3, 2), 1, 3, 5, 2},
		// Beside a gap.
		{tidesOf(0, 1, 60, 2, 121, 900), 0, 60, 2, 1}, {tidesOf(0, 900, 61, 1, 121, 2), 61, 121, 2, 1}, {tidesOf(0, 900, 61, 1), 61, 61, 1, 1},
	} {
		if num, den, ok := impl.HighestLevel(c.list, c.from, c.to); !ok || num != c.num || den != c.den {
			t.Error(c, num, den, ok)
		}
	}
}

func TestP4HighestLevelOfAllSpans(t *testing.T) {
	for _, list := range goodCurves() {
		first, last := max(0, list[0].Time-2), min(impl.MaxTime, list[0].Time+200)
		for from := first; from <= last; from++ {
			highest, parts, isWhole := 0, 0, true
			for to := from; to <= last; to++ {
				a, b, isThere := plainLevel(list, to)
				isWhole = isWhole && isThere
				if isWhole && (parts == 0 || a*parts > highest*b) {
					highest, parts = a, b
				}
				num, den, ok := impl.HighestLevel(list, from, to)
				if ok != isWhole || ok && !isFraction(num, den, highest, parts) || !ok && (num != 0 || den != 0) {
					t.Error(list, from, to, num, den, ok)
				}
			}
		}
	}
}

func TestP4HighestLevelRefuses(t *testing.T) {
	list := tidesOf(100, 900, 160, 800, 221, 700, 230, 600)
	for _, c := range [][2]int{
		// Minutes without a level at the front, within and at the end, and only such.
		{99, 100}, {99, 130}, {100, 161}, {100, 221}, {220, 221}, {160, 221}, {161, 161}, {100, 230}, {161, 220}, {230, 231}, {225, 300},
		{0, 99}, {231, 231}, {0, impl.MaxTime}, {impl.MaxTime, impl.MaxTime}, {231, impl.MaxTime}, {0, 0},
		// From behind to.
		{130, 129}, {160, 100}, {100, 99}, {impl.MaxTime, 0}, {101, math.MinInt}, {math.MaxInt, math.MinInt},
		// No times.
		{-1, 130}, {math.MinInt, 130}, {100, impl.MaxTime + 1}, {100, math.MaxInt}, {-1, -1}, {math.MinInt, math.MaxInt},
		{impl.MaxTime + 1, impl.MaxTime + 1}, {math.MaxInt, math.MaxInt}, {math.MinInt, math.MinInt},
	} {
		if num, den, ok := impl.HighestLevel(list, c[0], c[1]); ok || num != 0 || den != 0 {
			t.Error(c, num, den, ok)
		}
	}
	for _, list := range wrongCurves() {
		for _, x := range append(list, impl.Tide{}, impl.Tide{Time: 3}) {
			if num, den, ok := impl.HighestLevel(list, x.Time, x.Time); ok || num != 0 || den != 0 {
				t.Error(list, x, num, den, ok)
			}
		}
	}
	if num, den, ok := impl.HighestLevel(tidesOf(0, 5), -1, 0); ok || num != 0 || den != 0 {
		t.Error("from just before the first time", num, den, ok)
	}
	if num, den, ok := impl.HighestLevel(tidesOf(impl.MaxTime, 5), impl.MaxTime, impl.MaxTime+1); ok || num != 0 || den != 0 {
		t.Error("to just behind the last time", num, den, ok)
	}
}

func TestP4MinutesWith(t *testing.T) {
	list := tidesOf(0, 100, 60, 190, 121, 100)
	for _, c := range []struct {
		list                  []impl.Tide
		level, from, to, want int
	}{
		{list, 175, 0, 200, 11}, {list, 174, 0, 200, 11}, {list, 173, 0, 200, 12}, {list, 190, 0, 200, 1}, {list, 191, 0, 200, 0},
		{list, 100, 0, 200, 62}, {list, 101, 0, 200, 60}, {list, -1000, 0, impl.MaxTime, 62}, {list, 2000, 0, impl.MaxTime, 0},
		{list, 175, 50, 60, 11}, {list, 175, 51, 60, 10}, {list, 175, 50, 59, 10}, {list, 175, 0, 49, 0}, {list, 175, 61, impl.MaxTime, 0},
		{list, 100, 61, 121, 1}, {list, 100, 61, 120, 0}, {list, 100, 121, 121, 1}, {list, 101, 121, 121, 0}, {list, 175, 50, 50, 1}, {list, 175, 49, 49, 0},
		{list, 0, 122, impl.MaxTime, 0}, {list, 0, impl.MaxTime, impl.MaxTime, 0}, {list, 0, 0, 0, 1},
		// A level that is met exactly and one that is missed by a part of a centimeter.
		{tidesOf(0, 0, 60, 1), 1, 0, 60, 1}, {tidesOf(0, 0, 60, 1), 0, 0, 60, 61}, {tidesOf(0, 0, 60, -1), 0, 0, 60, 1}, {tidesOf(0, 0, 60, -1), -1, 0, 60, 61},
		{tidesOf(0, -2, 60, -1), -1, 0, 60, 1}, {tidesOf(0, -2, 60, -1), -2, 0, 60, 61}, {tidesOf(0, 2, 3, 4), 3, 0, 3, 2}, {tidesOf(0, 2, 4, 4), 3, 0, 4, 3},
		{tidesOf(5, -1000), -1000, 0, impl.MaxTime, 1}, {tidesOf(5, 2000), 2000, 0, impl.MaxTime, 1}, {tidesOf(5, -1000), -999, 0, impl.MaxTime, 0},
		{tidesOf(0, -1000, 60, -1000), -1000, 0, impl.MaxTime, 61}, {tidesOf(0, 7, 61, 7), 7, 0, impl.MaxTime, 2}, {tidesOf(0, 7, impl.MaxTime, 7), 7, 0, impl.MaxTime, 2},
		{tidesOf(9940, 7, impl.MaxTime, 7), 7, 0, impl.MaxTime, 61},
	} {
		if n, ok := impl.MinutesWith(c.list, c.level, c.from, c.to); !ok || n != c.want {
			t.Error(c, n, ok)
		}
	}
}

func TestP4FirstMinuteWith(t *testing.T) {
	list := tidesOf(30, 100, 90, 190, 151, 150, 153, 155)
	for _, c := range []struct {
		list              []impl.Tide
		level, from, want int
	}{
		{list, 175, 0, 80}, {list, 174, 0, 80}, {list, 173, 0, 79}, {list, 190, 0, 90}, {list, 100, 0, 30}, {list, -1000, 0, 30}, {list, 101, 0, 31},
		{list, 175, 80, 80}, {list, 175, 81, 81}, {list, 175, 90, 90}, {list, 150, 91, 151}, {list, 151, 91, 152}, {list, 153, 91, 153}, {list, 155, 91, 153},
		{list, 152, 152, 152}, {list, 153, 152, 153}, {list, 155, 153, 153}, {list, 100, 30, 30}, {list, 100, 31, 31}, {list, 100, 29, 30},
		{tidesOf(0, 5), 5, 0, 0}, {tidesOf(impl.MaxTime, 5), 5, 0, impl.MaxTime}, {tidesOf(impl.MaxTime, 5), 5, impl.MaxTime, impl.MaxTime},
		{tidesOf(5, 2000), 2000, 0, 5}, {tidesOf(5, -1000), -1000, 0, 5}, {tidesOf(0, 0, 60, 1), 1, 0, 60}, {tidesOf(0, -1, 60, 0), 0, 0, 60},
		{tidesOf(0, 9, 60, 0, 120, 9), 9, 1, 120}, {tidesOf(0, 9, 60, 0, 121, 9), 1, 55, 121},
	} {
		if n, ok := impl.FirstMinuteWith(c.list, c.level, c.from); !ok || n != c.want {
			t.Error(c, n, ok)
		}
	}
	for _, c := range []struct {
		list        []impl.Tide
		level, from int
	}{
		{list, 191, 0}, {list, 190, 91}, {list, 156, 91}, {list, 2000, 0}, {list, -1000, 154}, {list, -1000, impl.MaxTime}, {list, 155, 154},
		{tidesOf(5, -1000), -999, 0}, {tidesOf(5, 1999), 2000, 0}, {tidesOf(0, 5), 5, 1}, {tidesOf(0, 5), 6, 0},
	} {
		if n, ok := impl.FirstMinuteWith(c.list, c.level, c.from); ok || n != 0 {
			t.Error("there is none", c, n, ok)
		}
	}
}

func TestP4MinutesAndTheFirstOneByCounting(t *testing.T) {
	for _, list := range goodCurves() {
		for _, level := range []int{-1000, -60, -8, -1, 0, 1, 2, 90, 2000} {
			for _, from := range []int{0, 4, 61, 70, 9941, impl.MaxTime} {
				count, first := 0, -1
				for to := from; to <= impl.MaxTime; to++ {
					if num, den, isThere := plainLevel(list, to); isThere && num >= level*den {
						count++
						if first < 0 {
							first = to
						}
					}
					if to%997 != 0 && to < impl.MaxTime && to > from+70 {
						continue
					}
					if n, ok := impl.MinutesWith(list, level, from, to); !ok || n != count {
						t.Error("minutes", list, level, from, to, n, ok)
					}
				}
				if n, ok := impl.FirstMinuteWith(list, level, from); ok != (first >= 0) || n != max(first, 0) {
					t.Error("first", list, level, from, n, ok)
				}
			}
		}
	}
}

func TestP4MinutesRefuse(t *testing.T) {
	list := tidesOf(0, 5, 60, 9)
	for _, level := range []int{math.MinInt, -1001, 2001, math.MaxInt} {
		if n, ok := impl.MinutesWith(list, level, 0, 60); ok || n != 0 {
			t.Error("minutes with", level, n, ok)
		}
		if n, ok := impl.FirstMinuteWith(list, level, 0); ok || n != 0 {
			t.Error("first with", level, n, ok)
		}
	}
	for _, c := range [][2]int{
		{-1, 5}, {math.MinInt, 5}, {5, impl.MaxTime + 1}, {5, math.MaxInt}, {-1, -1}, {impl.MaxTime + 1, impl.MaxTime + 1},
		{math.MinInt, math.MaxInt}, {6, 5}, {1, 0}, {impl.MaxTime, 0}, {impl.MaxTime, impl.MaxTime - 1}, {5, math.MinInt}, {math.MaxInt, 5}, {5, -1},
	} {
		if n, ok := impl.MinutesWith(list, 0, c[0], c[1]); ok || n != 0 {
			t.Error("minutes", c, n, ok)
		}
	}
	for _, from := range wrongTimes {
		if n, ok := impl.FirstMinuteWith(list, 0, from); ok || n != 0 {
			t.Error("first", from, n, ok)
		}
	}
	for _, list := range wrongCurves() {
		if n, ok := impl.MinutesWith(list, -1000, 0, impl.MaxTime); ok || n != 0 {
			t.Error("minutes", list, n, ok)
		}
		if n, ok := impl.FirstMinuteWith(list, -1000, 0); ok || n != 0 {
			t.Error("first", list, n, ok)
		}
	}
}

func TestP4TideGaps(t *testing.T) {
	for _, c := range []struct {
		list []impl.Tide
		want []int
	}{
		{tidesOf(5, 1), nil}, {tidesOf(5, 1, 6, 1), nil}, {tidesOf(impl.MaxTime, 1), nil},
		// Just MaxTideGap is no gap, one minute more is.
		{tidesOf(5, 1, 64, 1), nil}, {tidesOf(5, 1, 65, 1), nil}, {tidesOf(5, 1, 66, 1), []int{0}}, {tidesOf(5, 1, 67, 1), []int{0}},
		{tidesOf(0, 100, 60, 190, 121, 100), []int{1}}, {tidesOf(0, 100, 61, 190, 121, 100), []int{0}},
		{tidesOf(0, 1, 61, 1, 122, 1), []int{0, 1}}, {tidesOf(0, 1, 60, 1, 120, 1, 180, 1), nil},
		{tidesOf(0, 1, 60, 1, 121, 1, 181, 1, 242, 1, 243, 1), []int{1, 3}}, {tidesOf(0, 1, impl.MaxTime, 1), []int{0}},
		// The Levels do not count, nor do the times before the first and behind the last Tide.
		{tidesOf(0, -1000, 60, 2000), nil}, {tidesOf(0, 2000, 61, 2000), []int{0}}, {tidesOf(5000, 1, 5001, 1), nil},
		{manyTides(impl.MaxTides), nil},
	} {
		if got, ok := impl.TideGaps(c.list); !ok || !slices.Equal(got, c.want) {
			t.Error(c.list, got, ok)
		}
	}
	most, want := []impl.Tide{}, []int{}
	for i := range impl.MaxTides {
		most = append(most, impl.Tide{Time: 900 * i})
		if i > 0 {
			want = append(want, i-1)
		}
	}
	if got, ok := impl.TideGaps(most); !ok || !slices.Equal(got, want) {
		t.Error("the most gaps", got, ok)
	}
	for _, list := range wrongCurves() {
		if got, ok := impl.TideGaps(list); ok || len(got) != 0 {
			t.Error(list, got, ok)
		}
	}
}

func TestP4RaiseTides(t *testing.T) {
	for _, c := range []struct {
		list []impl.Tide
		by   int
		want []impl.Tide
	}{
		{tidesOf(5, 1), 0, tidesOf(5, 1)}, {tidesOf(5, 1), 7, tidesOf(5, 8)}, {tidesOf(5, 1), -7, tidesOf(5, -6)},
		{tidesOf(0, 100, 60, -190, 121, 0), 10, tidesOf(0, 110, 60, -180, 121, 10)},
		{tidesOf(0, 100, 60, -190, 121, 0), -10, tidesOf(0, 90, 60, -200, 121, -10)},
		// Up to the limits.
		{tidesOf(0, 100, 60, 1990), 10, tidesOf(0, 110, 60, 2000)}, {tidesOf(0, 100, 60, -990), -10, tidesOf(0, 90, 60, -1000)},
		{tidesOf(7, -1000), 3000, tidesOf(7, 2000)}, {tidesOf(7, 2000), -3000, tidesOf(7, -1000)},
		{tidesOf(0, 2000, impl.MaxTime, 2000), 0, tidesOf(0, 2000, impl.MaxTime, 2000)},
	} {
		if got, ok := impl.RaiseTides(c.list, c.by); !ok || !slices.Equal(got, c.want) {
			t.Error(c.list, c.by, got, ok)
		}
	}
	for _, list := range goodCurves() {
		lowest, highest := 2000, -1000
		for _, x := range list {
			lowest, highest = min(lowest, x.Level), max(highest, x.Level)
		}
		for by := -3005; by <= 3005; by++ {
			want := slices.Clone(list)
			for i := range want {
				want[i].Level += by
			}
			isCurve := lowest+by >= -1000 && highest+by <= 2000
			got, ok := impl.RaiseTides(list, by)
			if ok != isCurve || ok && !slices.Equal(got, want) || !ok && len(got) != 0 {
				t.Error(list, by, got, ok)
			}
		}
	}
}

func TestP4RaiseTidesRefuses(t *testing.T) {
	for _, list := range goodCurves() {
		for _, by := range []int{math.MinInt, math.MinInt + 1000, -3001, 3001, math.MaxInt - 2000, math.MaxInt - 1000, math.MaxInt} {
			if got, ok := impl.RaiseTides(list, by); ok || len(got) != 0 {
				t.Error(list, by, got, ok)
			}
		}
	}
	for _, list := range wrongCurves() {
		for _, by := range []int{-7, 0, 7} {
			if got, ok := impl.RaiseTides(list, by); ok || len(got) != 0 {
				t.Error(list, by, got, ok)
			}
		}
	}
	// The result would be a curve, but the list is none.
	for _, list := range [][]impl.Tide{tidesOf(0, 2001), tidesOf(0, 5, 9, 2001)} {
		if got, ok := impl.RaiseTides(list, -1); ok || len(got) != 0 {
			t.Error(list, got, ok)
		}
	}
}

func TestP29TideFunctionsLeaveTheirArguments(t *testing.T) {
	// What lies behind the length of the list is neither read nor written.
	whole := tidesOf(0, 10, 10, 30, 20, 20, 30, 25, 3, 9000, -1, 7)
	before := slices.Clone(whole)
	for size := range len(whole) + 1 {
		list := whole[:size]
		valid := 1 <= size && size <= 4
		if impl.IsTideCurve(list) != valid {
			t.Error("IsTideCurve", size)
		}
		// Minute 15 needs three Tides, minute 30 has the fourth one.
		if _, _, ok := impl.LevelAt(list, 15); ok != (valid && size > 2) {
			t.Error("LevelAt", size)
		}
		if _, ok := impl.ReducedDepth(list, 100, 30); ok != (size == 4) {
			t.Error("ReducedDepth", size)
		}
		if _, _, ok := impl.LevelBetween(list, tidesOf(15, 5), 1, 1, 15); ok != (valid && size > 2) {
			t.Error("LevelBetween", size)
		}
		if _, _, ok := impl.LevelBetween(tidesOf(15, 5), list, 1, 1, 15); ok != (valid && size > 2) {
			t.Error("LevelBetween, the second", size)
		}
		if _, _, ok := impl.HighestLevel(list, 0, 20); ok != (valid && size > 2) {
			t.Error("HighestLevel", size)
		}
		if n, ok := impl.MinutesWith(list, 0, 0, 100); ok != valid || valid && n != 10*size-9 {
			t.Error("MinutesWith", size, n)
		}
		if n, ok := impl.FirstMinuteWith(list, 25, 11); ok != (valid && size > 2) || ok && n != 11 {
			t.Error("FirstMinuteWith", size, n)
		}
		if gaps, ok := impl.TideGaps(list); ok != valid || len(gaps) != 0 {
			t.Error("TideGaps", size, gaps)
		}
		if raised, ok := impl.RaiseTides(list, 8); ok != valid || valid && len(raised) != size {
			t.Error("RaiseTides", size, raised)
		}
	}
	if !slices.Equal(whole, before) {
		t.Error("the Tides are now", whole)
	}
}

func TestP29TideResultsShareNothing(t *testing.T) {
	// The list has room behind its length, in which no result may lie.
	room := make([]impl.Tide, 3, impl.MaxTides)
	copy(room, tidesOf(0, 10, 61, 30, 122, 20))
	for _, by := range []int{0, 5} {
		raised, _ := impl.RaiseTides(room, by)
		other, _ := impl.RaiseTides(room, by)
		if len(raised) != 3 || len(other) != 3 {
			t.Fatal("not raised", by)
		}
		for i := range raised {
			raised[i] = impl.Tide{Time: -7, Level: -7}
		}
		_ = append(raised, impl.Tide{Time: -8})
		if other[0].Level != 10+by || other[1].Level != 30+by || other[2].Level != 20+by {
			t.Error("the other result is now", other)
		}
	}
	gaps, _ := impl.TideGaps(room)
	if !slices.Equal(gaps, []int{0, 1}) {
		t.Fatal("gaps", gaps)
	}
	gaps[0], gaps[1] = -7, -7
	if again, ok := impl.TideGaps(room); !ok || !slices.Equal(again, []int{0, 1}) {
		t.Error("the gaps are now", again)
	}
	want := append(tidesOf(0, 10, 61, 30, 122, 20), make([]impl.Tide, impl.MaxTides-3)...)
	if !slices.Equal(room[:impl.MaxTides], want) {
		t.Error("the Tides are now", room[:impl.MaxTides])
	}
}

func TestP29TideFunctionsReturnForAllArguments(t *testing.T) {
	numbers := []int{math.MinInt, -1001, -1000, -1, 0, 1, 60, 61, 2000, 2001, impl.MaxTime, impl.MaxTime + 1, 30000, math.MaxInt}
	for _, a := range numbers {
		for _, b := range numbers {
			for _, c := range numbers {
				list := tidesOf(a, b, c, a)
				valid := impl.IsTideCurve(list)
				num, den, isThere := impl.LevelAt(list, b)
				n, isReduced := impl.ReducedDepth(list, a, b)
				if isThere && !valid || isReduced && !isThere || !isThere && (num != 0 || den != 0) || !isReduced && n != 0 {
					t.Error("level", a, b, c, num, den, n)
				}
				p, q, isBetween := impl.LevelBetween(list, tidesOf(c, 5), a, b, c)
				if isBetween && !valid || !isBetween && (p != 0 || q != 0) {
					t.Error("between", a, b, c, p, q)
				}
				p, q, isHighest := impl.HighestLevel(list, b, c)
				if isHighest && !valid || !isHighest && (p != 0 || q != 0) {
					t.Error("highest", a, b, c, p, q)
				}
				count, isCounted := impl.MinutesWith(list, a, b, c)
				first, isFound := impl.FirstMinuteWith(list, a, b)
				if (isCounted || isFound) && !valid || !isCounted && count != 0 || !isFound && first != 0 {
					t.Error("minutes", a, b, c, count, first)
				}
				gaps, isChecked := impl.TideGaps(list)
				raised, isRaised := impl.RaiseTides(list, c)
				if isChecked != valid || isRaised && !impl.IsTideCurve(raised) || !isChecked && len(gaps) != 0 || !isRaised && len(raised) != 0 {
					t.Error("gaps and raised", a, b, c, gaps, raised)
				}
			}
		}
	}
}
