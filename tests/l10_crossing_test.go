package tests

import (
	"math"
	"math/big"
	"slices"
	"testing"

	"loop.example/g01031/impl"
)

// crossingsOf makes Crossings of four numbers each: Line, Cross, Main and Check.
func crossingsOf(numbers ...int) []impl.Crossing {
	list := []impl.Crossing{}
	for i := 0; i+3 < len(numbers); i += 4 {
		list = append(list, impl.Crossing{Line: numbers[i], Cross: numbers[i+1], Main: numbers[i+2], Check: numbers[i+3]})
	}
	return list
}

// checksOf makes Crossings of the Line 5 with the Crosses 30, 29 and so on of pairs of a Main and a Check.
func checksOf(numbers ...int) []impl.Crossing {
	list := []impl.Crossing{}
	for i := 0; i+1 < len(numbers); i += 2 {
		list = append(list, impl.Crossing{Line: 5, Cross: 30 - i/2, Main: numbers[i], Check: numbers[i+1]})
	}
	return list
}

// differencesOf makes Crossings of the Line 5 with these differences, none of which has a positive Main.
func differencesOf(numbers ...int) []impl.Crossing {
	list := []impl.Crossing{}
	for _, n := range numbers {
		main := -1000 - min(0, n)
		list = append(list, checksOf(main, main+n)...)
		list[len(list)-1].Cross = 31 - len(list)
	}
	return list
}

// manyCrossings have several Crosses of a Line and several Lines of a Cross, and no two have the same Main.
func manyCrossings(count int) []impl.Crossing {
	list := []impl.Crossing{}
	for i := range count {
		main := 310 - 211*i + 19*i*i
		list = append(list, impl.Crossing{Line: []int{7, 3, 7, 40, 3, 99, 7, 40, 1, 3}[i%10], Cross: 50 - i/2, Main: main, Check: main - 30 + 37*i%61})
	}
	return list
}

// ford is a valid Crossing of which each number is another one.
func ford() impl.Crossing { return impl.Crossing{Line: 8, Cross: 21, Main: 400, Check: 390} }

// fordWith changes a valid Crossing.
func fordWith(change func(*impl.Crossing)) impl.Crossing {
	c := ford()
	change(&c)
	return c
}

// goodCrossings are at the limits or within them.
func goodCrossings() []impl.Crossing {
	return crossingsOf(8, 21, 400, 390, 1, 1, 0, 0, 99, 99, 20000, 20000, 1, 99, -1000, -1000, 99, 1, 20000, -1000, 50, 50, -1000, 20000, 2, 98, 19999, -999, 98, 2, -999, 19999, 10, 11, 0, 20000, 11, 10, 0, -1000,
		8, 8, 1, 0, 9, 9, 0, 1, 9, 10, -1, 1, 10, 9, -1, -1000, 99, 50, 20000, 0, 7, 7, 20000, 19999)
}

// wrongCrossings are beyond one limit each, by one or by far.
func wrongCrossings() []impl.Crossing {
	list := []impl.Crossing{{}, {Line: 1}, {Cross: 1}, {Main: 5, Check: 5}}
	for _, n := range []int{math.MinInt, -8, -1, 0, 100, 101, math.MaxInt} {
		list = append(list, fordWith(func(c *impl.Crossing) { c.Line = n }), fordWith(func(c *impl.Crossing) { c.Cross = n }))
	}
	for _, n := range wrongDepths {
		list = append(list, fordWith(func(c *impl.Crossing) { c.Main = n }), fordWith(func(c *impl.Crossing) { c.Check = n }), fordWith(func(c *impl.Crossing) { c.Main, c.Check = n, n }))
	}
	return list
}

// wrongFixed are fixed numbers beyond a limit, by one or by far; a hundred times the last ones is no number any more.
var wrongFixed = []int{-1, -500, 501, 1000, math.MinInt, math.MaxInt, 1 << 62, -1 << 62, 1 << 60}

// wrongPercentages are beyond a limit, by one or by far; that many times a depth the last ones are no number any more.
var wrongPercentages = []int{-1, -100, 101, 1000, math.MinInt, math.MaxInt, 1 << 62, -1 << 62, 1 << 60}

// crossingLists are valid, from none to the most.
func crossingLists() [][]impl.Crossing {
	lists := [][]impl.Crossing{
		nil, {}, crossingsOf(1, 10, 1000, 1010, 1, 11, 1000, 1030, 2, 10, -20, -25),
		// Numbers of Lines and Crosses that are alike in some way, but no pair that is twice.
		crossingsOf(1, 2, 5, 5, 2, 1, 5, 5), crossingsOf(1, 11, 5, 5, 11, 1, 5, 5, 1, 1, 5, 5, 11, 11, 5, 5), crossingsOf(5, 5, 5, 6, 5, 6, 5, 7, 4, 6, 5, 8, 6, 4, 5, 9, 6, 5, 5, 4), crossingsOf(3, 4, 0, 9, 4, 3, 0, -9, 2, 6, 0, 8, 6, 2, 0, -8),
		crossingsOf(99, 1, 0, 0, 1, 99, 0, 0, 99, 99, 0, 0, 98, 99, 0, 0, 99, 98, 0, 0),
		// One Line with the most Crosses, and one Cross with the most Lines, which are turned round.
		checksOf(100, 110, 200, 190, 300, 331, 400, 400, 500, 469, -100, -90, -200, -231, 0, 31, 20000, 19990, -1000, -1000),
		crossingsOf(99, 4, 10, 20, 90, 4, 20, 0, 80, 4, 30, 35, 70, 4, 0, 0, 60, 4, 50, 51, 50, 4, -60, -40, 40, 4, 70, 50, 30, 4, 80, 100, 20, 4, 90, 89, 1, 4, 100, 80),
		// The greatest and the least difference, and such as many times.
		checksOf(-1000, 20000), checksOf(20000, -1000), checksOf(-1000, 20000, 20000, -1000), checksOf(20000, -1000, -1000, 20000), checksOf(-1000, 20000, -1000, 20000, -1000, 20000, -1000, 20000, -1000, 20000, -1000, 20000, -1000, 20000, -1000, 20000, -1000, 20000, -1000, 20000),
		checksOf(20000, -1000, 20000, -1000, 20000, -1000, 20000, -1000, 20000, -1000, 20000, -1000, 20000, -1000, 20000, -1000, 20000, -1000, 20000, -1000), differencesOf(0, 0, 0), differencesOf(1, -1), differencesOf(-1, 1), differencesOf(5, -5, 5, -5), differencesOf(3, -4, 4, 2),
		differencesOf(500, 501, -500, -501), differencesOf(0, 1, 2, 3, 4, 5, 6, 7, 8, 9), differencesOf(-9, -8, -7, -6, -5, -4, -3, -2, -1, 0),
		// Lines whose offsets are equal without sign, of different numbers of Crossings.
		crossingsOf(9, 1, 0, 10, 4, 1, 0, -10, 6, 1, 0, 20, 6, 2, 0, 0), crossingsOf(9, 1, 0, 10, 4, 1, 0, 5, 4, 2, 0, 14, 6, 1, 0, -9), crossingsOf(30, 1, 0, 1, 20, 1, 0, 1, 20, 2, 0, 0, 10, 1, 0, -1, 10, 2, 0, 0, 10, 3, 0, -2),
	}
	for _, c := range goodCrossings() {
		lists = append(lists, []impl.Crossing{c})
	}
	for count := 1; count <= impl.MaxCrossings; count++ {
		lists = append(lists, manyCrossings(count))
	}
	return lists
}

// wrongCrossingLists are too many, have a pair twice, or one Crossing that is not valid.
func wrongCrossingLists() [][]impl.Crossing {
	lists := [][]impl.Crossing{manyCrossings(impl.MaxCrossings + 1), append(manyCrossings(impl.MaxCrossings), ford()), append(manyCrossings(impl.MaxCrossings), manyCrossings(1)...), make([]impl.Crossing, 3), crossingsOf(1, 1, 0, 0, 1, 1, 0, 0)}
	for count := 2; count <= impl.MaxCrossings; count++ {
		for i := range count - 1 {
			// The same pair with other depths, beside each other and far apart, in front and behind.
			last, first := manyCrossings(count), manyCrossings(count)
			last[count-1].Line, last[count-1].Cross = last[i].Line, last[i].Cross
			first[0].Line, first[0].Cross = first[i+1].Line, first[i+1].Cross
			lists = append(lists, last, first)
		}
	}
	for _, wrong := range wrongCrossings() {
		lists = append(lists, []impl.Crossing{wrong})
		for i := range 3 {
			list := manyCrossings(3)
			list[i] = wrong
			lists = append(lists, list)
		}
	}
	return lists
}

// plainDifference returns by how many centimeters the Check is greater, by counting them.
func plainDifference(c impl.Crossing) int {
	n := 0
	for depth := c.Main; depth < c.Check; depth++ {
		n++
	}
	for depth := c.Check; depth < c.Main; depth++ {
		n--
	}
	return n
}

// plainMeanOf returns the mean of the differences of all Crossings that are meant.
func plainMeanOf(list []impl.Crossing, isMeant func(impl.Crossing) bool) *big.Rat {
	sum, count := 0, 0
	for _, c := range list {
		if isMeant(c) {
			sum, count = sum+plainDifference(c), count+1
		}
	}
	return big.NewRat(int64(sum), int64(count))
}

// plainTolerates tells, by the document's words, whether a difference is tolerated.
func plainTolerates(c impl.Crossing, fixed, percent int) bool {
	allowed := big.NewRat(int64(fixed), 1)
	if c.Main > 0 {
		allowed.Add(allowed, new(big.Rat).Mul(big.NewRat(int64(percent), 100), big.NewRat(int64(c.Main), 1)))
	}
	difference := big.NewRat(int64(plainDifference(c)), 1)
	return difference.Abs(difference).Cmp(allowed) <= 0
}

// plainNotTolerated returns the indices of the Crossings whose differences are not tolerated.
func plainNotTolerated(list []impl.Crossing, fixed, percent int) []int {
	indices := []int{}
	for i, c := range list {
		if !plainTolerates(c, fixed, percent) {
			indices = append(indices, i)
		}
	}
	return indices
}

// linesMet returns each Line of a list once, in ascending order.
func linesMet(list []impl.Crossing) []int {
	lines := []int{}
	for _, c := range list {
		lines = append(lines, c.Line)
	}
	slices.Sort(lines)
	return slices.Compact(lines)
}

// isOf makes a condition that the Crossings of a Line meet.
func isOf(line int) func(impl.Crossing) bool {
	return func(c impl.Crossing) bool { return c.Line == line }
}

func TestP10AreCrossings(t *testing.T) {
	for _, list := range crossingLists() {
		if !impl.AreCrossings(list) {
			t.Error(list, "are not valid")
		}
	}
	for _, list := range wrongCrossingLists() {
		if impl.AreCrossings(list) {
			t.Error(list, "are valid")
		}
	}
}

func TestP10TheLimitsOfACrossing(t *testing.T) {
	for n := -1100; n <= 20100; n++ {
		isNumber, isDepth := 1 <= n && n <= 99, -1000 <= n && n <= 20000
		if impl.AreCrossings(crossingsOf(n, 21, 400, 390)) != isNumber || impl.AreCrossings(crossingsOf(8, n, 400, 390)) != isNumber {
			t.Error("Line or Cross", n)
		}
		if impl.AreCrossings(crossingsOf(8, 21, n, 390)) != isDepth || impl.AreCrossings(crossingsOf(8, 21, 400, n)) != isDepth {
			t.Error("Main or Check", n)
		}
	}
}

func TestP10OnlyAPairMustNotBeTwice(t *testing.T) {
	for line := 1; line <= 99; line++ {
		for cross := 1; cross <= 99; cross++ {
			list := crossingsOf(12, 34, 100, 100, line, cross, 100, 100)
			if impl.AreCrossings(list) != (line != 12 || cross != 34) {
				t.Error(list)
			}
		}
	}
}

func TestP10TheWrongCrossingOfAFullListIsFound(t *testing.T) {
	for i := range impl.MaxCrossings {
		for _, wrong := range wrongCrossings() {
			list := manyCrossings(impl.MaxCrossings)
			list[i] = wrong
			if impl.AreCrossings(list) {
				t.Error(list, "are valid")
			}
		}
		for j := range i {
			list := manyCrossings(impl.MaxCrossings)
			list[i].Line, list[i].Cross = list[j].Line, list[j].Cross
			if impl.AreCrossings(list) {
				t.Error(i, j, list, "are valid")
			}
		}
	}
}

func TestP10MeanDifference(t *testing.T) {
	for _, c := range []struct {
		list     []impl.Crossing
		num, den int
	}{
		{crossingsOf(1, 10, 1000, 1010, 1, 11, 1000, 1030, 2, 10, -20, -25), 35, 3}, {crossingsOf(8, 21, 400, 390), -10, 1}, {crossingsOf(8, 21, 390, 400), 10, 1}, {checksOf(7, 7), 0, 1},
		// 0 of several, whole numbers, and fractions to be reduced.
		{differencesOf(5, -5), 0, 1}, {differencesOf(3, -1, -2), 0, 1}, {differencesOf(0, 0, 0, 0), 0, 1}, {differencesOf(2, 4), 3, 1}, {differencesOf(-2, -4), -3, 1}, {differencesOf(1, 2), 3, 2}, {differencesOf(-1, -2), -3, 2}, {differencesOf(1, 0), 1, 2}, {differencesOf(-1, 0), -1, 2},
		{differencesOf(1, 2, 2, 1), 3, 2}, {differencesOf(-1, -2, -2, -1), -3, 2}, {differencesOf(1, 0, 0, 1, 0, 0), 1, 3}, {differencesOf(-1, 0, 0, 0, 0, 0, 0, 0, 0), -1, 9}, {differencesOf(6, 0, 0, 0, 0, 0, 0, 0, 0), 2, 3}, {differencesOf(6, 0, 0, 0, 0, 0, 0, 0, 0, 0), 3, 5}, {differencesOf(-5, 0, 0, 0, 0, 0, 0, 0, 0, 0), -1, 2},
		{differencesOf(1, 2, 3, 4, 5, 6, 7), 4, 1}, {differencesOf(1, 2, 3, 4, 5, 6, 8), 29, 7}, {differencesOf(-1, -2, -3, -4, -5, -6, -8), -29, 7}, {differencesOf(1, 1, 1, 1, 1, 1, 1, 1, 1, 1), 1, 1}, {differencesOf(1, 1, 1, 1, 1, 1, 1, 1, 1, 0), 9, 10},
		// The greatest and the least.
		{checksOf(-1000, 20000), 21000, 1}, {checksOf(20000, -1000), -21000, 1}, {checksOf(-1000, 20000, 20000, -1000), 0, 1}, {checksOf(-1000, 20000, 0, 1), 21001, 2}, {checksOf(20000, -1000, 0, 1, 0, 1), -20998, 3},
	} {
		if num, den, ok := impl.MeanDifference(c.list); !ok || num != c.num || den != c.den {
			t.Error(c, num, den, ok)
		}
	}
	for _, list := range crossingLists() {
		num, den, ok := impl.MeanDifference(list)
		if len(list) == 0 {
			if ok || num != 0 || den != 0 {
				t.Error("mean of none", num, den, ok)
			}
			continue
		}
		if !ok || !isExactly(num, den, plainMeanOf(list, func(impl.Crossing) bool { return true })) {
			t.Error(list, num, den, ok)
		}
	}
	for _, list := range wrongCrossingLists() {
		if num, den, ok := impl.MeanDifference(list); ok || num != 0 || den != 0 {
			t.Error(list, num, den, ok)
		}
	}
}

func TestP10GreatestDifference(t *testing.T) {
	for _, c := range []struct {
		list              []impl.Crossing
		index, difference int
	}{
		{crossingsOf(1, 10, 1000, 1010, 1, 11, 1000, 1030, 2, 10, -20, -25), 1, 30}, {crossingsOf(8, 21, 400, 390), 0, -10}, {crossingsOf(8, 21, 390, 400), 0, 10}, {checksOf(9, 9), 0, 0}, {checksOf(-9, -9, 0, 0), 0, 0},
		// The first one of several, also of opposite signs.
		{differencesOf(5, 5), 0, 5}, {differencesOf(-5, -5), 0, -5}, {differencesOf(5, -5), 0, 5}, {differencesOf(-5, 5), 0, -5}, {differencesOf(4, -5, 5), 1, -5}, {differencesOf(4, 5, -5), 1, 5}, {differencesOf(-5, 4, 5, -5), 0, -5}, {differencesOf(0, 0, 0), 0, 0},
		{differencesOf(0, 1, -1, 0), 1, 1}, {differencesOf(0, -1, 1, 0), 1, -1}, {differencesOf(-7, 6, 7), 0, -7}, {differencesOf(-7, 8, 7), 1, 8}, {differencesOf(7, -8, 7), 1, -8}, {differencesOf(-6, 7, -8, 8), 2, -8}, {differencesOf(6, -7, 8, -8), 2, 8},
		// Among the most, at each end and between.
		{differencesOf(0, 1, 2, 3, 4, 5, 6, 7, 8, -9), 9, -9}, {differencesOf(0, 1, 2, 3, 4, 5, 6, 7, 8, 9), 9, 9}, {differencesOf(-9, 1, 2, 3, 4, 5, 6, 7, 8, 9), 0, -9}, {differencesOf(0, 1, 2, 3, -9, 5, 6, 7, 8, 9), 4, -9},
		// It is not the greatest share of a Main, nor the greatest depth.
		{checksOf(10000, 10100, 1, 90), 0, 100}, {checksOf(1, 90, 10000, 10100), 1, 100}, {checksOf(20000, 20000, -1000, -999), 1, 1},
		{checksOf(-1000, 20000, 20000, -1000), 0, 21000}, {checksOf(20000, -1000, -1000, 20000), 0, -21000}, {checksOf(19999, -1000, -1000, 20000), 1, 21000}, {checksOf(-1000, 19999, 20000, -1000), 1, -21000},
	} {
		if i, d, ok := impl.GreatestDifference(c.list); !ok || i != c.index || d != c.difference {
			t.Error(c, i, d, ok)
		}
	}
	for _, list := range crossingLists() {
		i, d, ok := impl.GreatestDifference(list)
		if len(list) == 0 {
			if ok || i != 0 || d != 0 {
				t.Error("greatest of none", i, d, ok)
			}
			continue
		}
		if !ok || plainDifference(list[i]) != d {
			t.Fatal(list, i, d, ok)
		}
		for j, c := range list {
			other := plainDifference(c)
			if other*other > d*d || j < i && other*other == d*d {
				t.Error(list, i, d, j, other)
			}
		}
	}
	for _, list := range wrongCrossingLists() {
		if i, d, ok := impl.GreatestDifference(list); ok || i != 0 || d != 0 {
			t.Error(list, i, d, ok)
		}
	}
}

func TestP10NotTolerated(t *testing.T) {
	l := crossingsOf(1, 10, 1000, 1010, 1, 11, 1000, 1030, 2, 10, -20, -25)
	for _, c := range []struct {
		list           []impl.Crossing
		fixed, percent int
		want           []int
	}{
		{l, 5, 1, []int{1}}, {l, 4, 1, []int{1, 2}}, {l, 5, 0, []int{0, 1}}, {l, 0, 0, []int{0, 1, 2}}, {l, 0, 1, []int{1, 2}}, {l, 20, 1, nil}, {l, 19, 1, []int{1}}, {l, 500, 100, nil}, {nil, 0, 0, nil}, {nil, 500, 100, nil}, {[]impl.Crossing{}, 7, 7, nil},
		// Just tolerated without a percentage, and a centimeter greater.
		{differencesOf(5, -5, 6, -6, 0), 5, 0, []int{2, 3}}, {differencesOf(5, -5, 6, -6, 0), 6, 0, nil}, {differencesOf(5, -5, 6, -6, 0), 4, 0, []int{0, 1, 2, 3}}, {differencesOf(0, 1, -1), 0, 0, []int{1, 2}}, {differencesOf(0, 0, 0), 0, 0, nil}, {differencesOf(500, -500, 501, -501), 500, 0, []int{2, 3}},
		{checksOf(400, 405, 400, 395, 400, 406, 400, 394), 5, 0, []int{2, 3}}, {checksOf(20000, 20000, 19500, 20000, 19499, 20000, 20000, 19500, 20000, 19499), 500, 0, []int{2, 4}},
		// Just tolerated with one.
		{checksOf(400, 409, 400, 391, 400, 410, 400, 390), 5, 1, []int{2, 3}}, {checksOf(400, 404, 400, 405, 400, 396, 400, 395), 0, 1, []int{1, 3}}, {checksOf(100, 1, 100, 0, 100, -1, 100, 200, 100, 201), 0, 100, []int{2, 4}}, {checksOf(100, -1, 100, -2, 100, 201, 100, 202), 1, 100, []int{1, 3}},
		// The percentage of a Main is no whole number of centimeters.
		{checksOf(399, 402, 399, 403, 399, 396, 399, 395), 0, 1, []int{1, 3}}, {checksOf(350, 353, 350, 354, 350, 347, 350, 346), 0, 1, []int{1, 3}}, {checksOf(99, 100, 99, 99, 99, 98), 0, 1, []int{0, 2}}, {checksOf(99, 100, 99, 99, 99, 101), 1, 1, []int{2}}, {checksOf(1, 2, 1, 0, 1, 1), 0, 99, []int{0, 1}}, {checksOf(1, 2, 1, 0, 1, 3), 0, 100, []int{2}},
		{checksOf(3, 4, 3, 2, 3, 5), 0, 33, []int{0, 1, 2}}, {checksOf(3, 4, 3, 2, 3, 5), 0, 34, []int{2}}, {checksOf(199, 300, 199, 299, 199, 298, 199, 99, 199, 98), 1, 50, []int{0, 4}}, {checksOf(50, 53, 50, 52, 150, 153, 150, 154), 2, 1, []int{0, 3}}, {checksOf(101, 103, 101, 102, 101, 104), 1, 1, []int{2}}, {checksOf(201, 204, 199, 202), 1, 1, []int{1}},
		// It is one of Main only, and only if that is positive.
		{checksOf(0, 1, 0, -1, 0, 0), 0, 100, []int{0, 1}}, {checksOf(0, 5, 0, 6, 0, -5, 0, -6), 5, 100, []int{1, 3}}, {checksOf(-100, -99, -100, -101, -100, -100), 0, 100, []int{0, 1}}, {checksOf(-1000, -995, -1000, -994), 5, 100, []int{1}}, {checksOf(-1000, -995, -1000, -994), 6, 100, nil}, {checksOf(-20, 400), 419, 100, []int{0}}, {checksOf(-20, 400), 420, 100, nil},
		{checksOf(100, 300), 0, 100, []int{0}}, {checksOf(300, 100), 0, 100, nil}, {checksOf(100, 102, 200, 198), 0, 1, []int{0}}, {checksOf(1, 101, 1, 102), 100, 99, []int{1}}, {checksOf(-1, 99, -1, 98), 99, 100, []int{0}},
		// The greatest and the least difference.
		{checksOf(-1000, 20000, 20000, -1000), 500, 100, []int{0, 1}}, {checksOf(20000, 0, 20000, -500, 20000, -501), 500, 100, []int{2}}, {checksOf(20000, 0, 20000, -1), 0, 100, []int{1}}, {checksOf(9750, 20000, 9749, 20000, 9750, -1000), 500, 100, []int{1, 2}},
	} {
		if indices, ok := impl.NotTolerated(c.list, c.fixed, c.percent); !ok || !slices.Equal(indices, c.want) {
			t.Error(c, indices, ok)
		}
	}
}

// fixedAround returns fixed numbers at the limits and around those at which a difference is just tolerated.
func fixedAround(list []impl.Crossing, percent int) []int {
	numbers := []int{0, 1, 2, 499, 500}
	for _, c := range list {
		missing := max(c.Check-c.Main, c.Main-c.Check) - max(0, c.Main)*percent/100
		for n := missing - 2; n <= missing+2; n++ {
			if 0 <= n && n <= 500 {
				numbers = append(numbers, n)
			}
		}
	}
	slices.Sort(numbers)
	return slices.Compact(numbers)
}

var percentages = []int{0, 1, 2, 3, 10, 33, 50, 51, 99, 100}

func TestP10DifferencesAreToleratedExactly(t *testing.T) {
	for _, list := range crossingLists() {
		for _, percent := range percentages {
			for _, fixed := range fixedAround(list, percent) {
				if indices, ok := impl.NotTolerated(list, fixed, percent); !ok || !slices.Equal(indices, plainNotTolerated(list, fixed, percent)) {
					t.Error(list, fixed, percent, indices, ok)
				}
			}
		}
	}
	// Around each Main the difference that is just tolerated.
	for main := -120; main <= 320; main++ {
		for percent := range 101 {
			allowed := 3 + max(0, main)*percent/100
			list := checksOf(main, main+allowed, main, main-allowed, main, main+allowed+1, main, main-allowed-1)
			if indices, ok := impl.NotTolerated(list, 3, percent); !ok || !slices.Equal(indices, []int{2, 3}) {
				t.Error(list, percent, indices, ok)
			}
		}
	}
}

func TestP10NotToleratedRefuses(t *testing.T) {
	check := func(list []impl.Crossing, fixed, percent int) {
		t.Helper()
		if indices, ok := impl.NotTolerated(list, fixed, percent); ok || len(indices) != 0 {
			t.Error(list, fixed, percent, indices, ok)
		}
	}
	for _, list := range wrongCrossingLists() {
		check(list, 5, 1)
		check(list, 0, 0)
		check(list, 500, 100)
	}
	for _, list := range crossingLists() {
		for _, n := range wrongFixed {
			check(list, n, 0)
			check(list, n, 100)
		}
		for _, n := range wrongPercentages {
			check(list, 0, n)
			check(list, 500, n)
		}
		check(list, -1, 101)
		check(list, 501, -1)
	}
}

func TestP10WithAGreaterFixedNumberNoMoreDifferencesAreNotTolerated(t *testing.T) {
	for _, list := range crossingLists() {
		for _, percent := range []int{0, 1, 33, 100} {
			last, ok := impl.NotTolerated(list, 0, percent)
			if !ok {
				t.Error(list, percent)
			}
			for fixed := 1; fixed <= 500; fixed++ {
				indices, ok := impl.NotTolerated(list, fixed, percent)
				if !ok || len(indices) > len(last) {
					t.Fatal(list, fixed, percent, indices, ok, last)
				}
				for _, i := range indices {
					if !slices.Contains(last, i) {
						t.Fatal(list, fixed, percent, indices, last)
					}
				}
				last = indices
			}
		}
	}
}

func TestP10AGreaterFixedNumberFailsNoTest(t *testing.T) {
	for _, list := range crossingLists() {
		for _, share := range []int{0, 1, 33, 34, 50, 66, 67, 90, 99, 100} {
			didPass := false
			for fixed := 0; fixed <= 500 && len(list) > 0; fixed++ {
				passes, ok := impl.PassesTest(list, fixed, 2, share)
				if !ok || didPass && !passes {
					t.Fatal(list, fixed, share, passes, ok)
				}
				didPass = passes
			}
		}
	}
}

func TestP10PassesTest(t *testing.T) {
	l := crossingsOf(1, 10, 1000, 1010, 1, 11, 1000, 1030, 2, 10, -20, -25)
	tens := differencesOf(0, 1, 2, 3, 4, 5, 6, 7, 8, 9)
	for _, c := range []struct {
		list                  []impl.Crossing
		fixed, percent, share int
		want                  bool
	}{
		{l, 5, 1, 66, true}, {l, 5, 1, 67, false}, {l, 5, 0, 33, true}, {l, 5, 0, 34, false}, {l, 4, 1, 33, true}, {l, 4, 1, 34, false}, {l, 4, 0, 0, true}, {l, 4, 0, 1, false}, {l, 20, 1, 100, true}, {l, 19, 1, 100, false}, {l, 19, 1, 66, true},
		// One Crossing: all or nothing.
		{differencesOf(5), 5, 0, 100, true}, {differencesOf(5), 5, 0, 0, true}, {differencesOf(5), 4, 0, 0, true}, {differencesOf(5), 4, 0, 1, false}, {differencesOf(5), 4, 0, 100, false}, {differencesOf(-5), 5, 0, 100, true}, {differencesOf(-5), 4, 0, 1, false}, {differencesOf(0), 0, 0, 100, true},
		// Shares that are met exactly, and not by one percent.
		{differencesOf(1, 9), 5, 0, 50, true}, {differencesOf(1, 9), 5, 0, 51, false}, {differencesOf(9, 1, 1, 9), 5, 0, 50, true}, {differencesOf(9, 1, 1, 9), 5, 0, 51, false}, {differencesOf(9, 1, 9, 9), 5, 0, 25, true}, {differencesOf(9, 1, 9, 9), 5, 0, 26, false}, {differencesOf(1, 1, 9, 1), 5, 0, 75, true}, {differencesOf(1, 1, 9, 1), 5, 0, 76, false},
		{differencesOf(1, 9, 9, 9, 9), 5, 0, 20, true}, {differencesOf(1, 9, 9, 9, 9), 5, 0, 21, false}, {differencesOf(9, 1, 1), 5, 0, 66, true}, {differencesOf(9, 1, 1), 5, 0, 67, false}, {differencesOf(1, 9, 9, 9, 9, 9, 9), 5, 0, 14, true}, {differencesOf(1, 9, 9, 9, 9, 9, 9), 5, 0, 15, false}, {differencesOf(1, 9, 9, 9, 9, 9, 9, 9), 5, 0, 12, true}, {differencesOf(1, 9, 9, 9, 9, 9, 9, 9), 5, 0, 13, false},
		{tens, 0, 0, 10, true}, {tens, 0, 0, 11, false}, {tens, 4, 0, 50, true}, {tens, 4, 0, 51, false}, {tens, 8, 0, 90, true}, {tens, 8, 0, 91, false}, {tens, 9, 0, 100, true}, {tens, 8, 0, 100, false}, {tens, 500, 100, 100, true},
	} {
		if passes, ok := impl.PassesTest(c.list, c.fixed, c.percent, c.share); !ok || passes != c.want {
			t.Error(c, passes, ok)
		}
	}
}

func TestP10EveryShareOfEveryList(t *testing.T) {
	for _, list := range crossingLists() {
		for _, percent := range []int{0, 1, 50, 100} {
			for _, fixed := range fixedAround(list, percent) {
				tolerated := len(list) - len(plainNotTolerated(list, fixed, percent))
				for share := range 101 {
					passes, ok := impl.PassesTest(list, fixed, percent, share)
					if len(list) == 0 {
						if passes || ok {
							t.Error("none", fixed, percent, share, passes, ok)
						}
						continue
					}
					want := big.NewRat(int64(tolerated), int64(len(list))).Cmp(big.NewRat(int64(share), 100)) >= 0
					if !ok || passes != want {
						t.Error(list, fixed, percent, share, passes, ok)
					}
				}
			}
		}
	}
}

func TestP10PassesTestRefuses(t *testing.T) {
	check := func(list []impl.Crossing, fixed, percent, share int) {
		t.Helper()
		if passes, ok := impl.PassesTest(list, fixed, percent, share); ok || passes {
			t.Error(list, fixed, percent, share, passes, ok)
		}
	}
	for _, list := range append(wrongCrossingLists(), nil, []impl.Crossing{}) {
		for _, share := range []int{0, 1, 50, 100} {
			check(list, 5, 1, share)
			check(list, 500, 100, share)
		}
	}
	for _, list := range crossingLists() {
		for _, n := range wrongFixed {
			check(list, n, 100, 0)
			check(list, n, 0, 100)
		}
		for _, n := range wrongPercentages {
			check(list, 500, n, 0)
			check(list, 0, n, 100)
			check(list, 500, 100, n)
			check(list, 0, 0, n)
		}
	}
}

func TestP10OffsetOfLine(t *testing.T) {
	l := crossingsOf(1, 10, 1000, 1010, 1, 11, 1000, 1030, 2, 10, -20, -25)
	mixed := crossingsOf(9, 1, 0, 10, 4, 9, 0, -10, 9, 2, 0, 11, 4, 1, 5, 5, 9, 4, -7, -7, 4, 2, 100, 96, 1, 9, 3, 3)
	for _, c := range []struct {
		list           []impl.Crossing
		line, num, den int
	}{
		{l, 1, 20, 1}, {l, 2, -5, 1}, {mixed, 9, 7, 1}, {mixed, 4, -14, 3}, {mixed, 1, 0, 1}, {checksOf(5, 5, 5, 6, 5, 7, 5, 8), 5, 3, 2}, {checksOf(5, 5, 5, 4, 5, 3, 5, 2), 5, -3, 2}, {differencesOf(3, -3), 5, 0, 1}, {differencesOf(-1, 0, 0, 0, 0, 0, 0, 0, 0, 0), 5, -1, 10},
		// One Cross with several Lines.
		{crossingsOf(3, 7, 0, 1, 4, 7, 0, 2, 5, 7, 0, -3), 3, 1, 1}, {crossingsOf(3, 7, 0, 1, 4, 7, 0, 2, 5, 7, 0, -3), 4, 2, 1}, {crossingsOf(3, 7, 0, 1, 4, 7, 0, 2, 5, 7, 0, -3), 5, -3, 1}, {crossingsOf(3, 4, 0, 1, 4, 3, 0, 2), 3, 1, 1}, {crossingsOf(3, 4, 0, 1, 4, 3, 0, 2), 4, 2, 1},
		{checksOf(-1000, 20000), 5, 21000, 1}, {checksOf(20000, -1000), 5, -21000, 1}, {checksOf(20000, -1000, 0, 1), 5, -20999, 2}, {crossingsOf(99, 1, 8, 9), 99, 1, 1}, {crossingsOf(1, 99, 9, 8), 1, -1, 1},
	} {
		if num, den, ok := impl.OffsetOfLine(c.list, c.line); !ok || num != c.num || den != c.den {
			t.Error(c, num, den, ok)
		}
	}
}

func TestP10TheOffsetOfEveryLine(t *testing.T) {
	for _, list := range crossingLists() {
		lines := linesMet(list)
		for line := -2; line <= 102; line++ {
			num, den, ok := impl.OffsetOfLine(list, line)
			if !slices.Contains(lines, line) {
				if ok || num != 0 || den != 0 {
					t.Error(list, line, num, den, ok)
				}
				continue
			}
			if !ok || !isExactly(num, den, plainMeanOf(list, isOf(line))) {
				t.Error(list, line, num, den, ok)
			}
		}
		for _, line := range []int{math.MinInt, math.MaxInt, -7, 1 << 32} {
			if num, den, ok := impl.OffsetOfLine(list, line); ok || num != 0 || den != 0 {
				t.Error(list, line, num, den, ok)
			}
		}
	}
	for _, list := range wrongCrossingLists() {
		for _, c := range append(slices.Clone(list), ford(), impl.Crossing{}) {
			if num, den, ok := impl.OffsetOfLine(list, c.Line); ok || num != 0 || den != 0 {
				t.Error(list, c.Line, num, den, ok)
			}
		}
	}
}

func TestP10WorstLine(t *testing.T) {
	for _, c := range []struct {
		list []impl.Crossing
		want int
	}{
		{crossingsOf(1, 10, 1000, 1010, 1, 11, 1000, 1030, 2, 10, -20, -25), 1}, {crossingsOf(8, 21, 400, 390), 8}, {crossingsOf(99, 1, 0, 0), 99}, {crossingsOf(8, 1, 0, 0, 3, 1, 0, 0), 3}, {crossingsOf(3, 1, 0, 0, 8, 1, 0, 0), 3}, {crossingsOf(8, 1, 0, 0, 3, 1, 0, 0, 5, 5, 7, 7), 3},
		// Without sign.
		{crossingsOf(8, 1, 0, 5, 3, 1, 0, -6), 3}, {crossingsOf(8, 1, 0, -6, 3, 1, 0, 5), 8}, {crossingsOf(3, 1, 0, 5, 8, 1, 0, -6), 8}, {crossingsOf(3, 1, 0, -6, 8, 1, 0, 5), 3}, {crossingsOf(3, 1, 0, 0, 8, 1, 0, -1), 8}, {crossingsOf(3, 1, 0, -1, 8, 1, 0, 0), 3},
		// The smallest Line of several, not the first one, also of opposite signs and of different numbers of Crossings.
		{crossingsOf(8, 1, 0, 5, 3, 1, 0, 5), 3}, {crossingsOf(8, 1, 0, 5, 3, 1, 0, -5), 3}, {crossingsOf(8, 1, 0, -5, 3, 1, 0, 5), 3}, {crossingsOf(3, 1, 0, -5, 8, 1, 0, 5), 3}, {crossingsOf(9, 1, 0, 10, 4, 1, 0, -10, 6, 1, 0, 20, 6, 2, 0, 0), 4}, {crossingsOf(9, 1, 0, 10, 10, 1, 0, -10, 6, 1, 0, -20, 6, 2, 0, 0), 6},
		{crossingsOf(30, 1, 0, 1, 20, 1, 0, 2, 20, 2, 0, 0, 10, 1, 0, -1, 10, 2, 0, 0, 10, 3, 0, -2), 10}, {crossingsOf(30, 1, 0, 1, 20, 1, 0, 2, 20, 2, 0, 0, 10, 1, 0, -1, 10, 2, 0, 0, 10, 3, 0, -1), 20}, {crossingsOf(2, 1, 0, 4, 100-1, 1, 0, 5, 98, 1, 0, -5, 97, 1, 0, 4), 98},
		// The mean counts, not the greatest difference, the sum or the number of Crossings.
		{crossingsOf(7, 1, 0, 30, 7, 2, 0, -30, 9, 1, 0, 1), 9}, {crossingsOf(7, 1, 0, 3, 7, 2, 0, 3, 7, 3, 0, 3, 9, 1, 0, 4), 9}, {crossingsOf(9, 1, 0, 4, 7, 1, 0, 3, 7, 2, 0, 3, 7, 3, 0, 3), 9}, {crossingsOf(7, 1, 0, -3, 7, 2, 0, -3, 7, 3, 0, -3, 9, 1, 0, -4), 9}, {crossingsOf(7, 1, 0, 30, 9, 1, 0, 50, 9, 2, 0, 0), 7}, {crossingsOf(9, 1, 0, 50, 7, 1, 0, 30, 9, 2, 0, 0), 7},
		// Fractions that are close to each other.
		{crossingsOf(7, 1, 0, 1, 7, 2, 0, 0, 7, 3, 0, 0, 9, 1, 0, 1, 9, 2, 0, 0), 9}, {crossingsOf(7, 1, 0, 1, 7, 2, 0, 1, 7, 3, 0, 0, 9, 1, 0, 1, 9, 2, 0, 0), 7}, {crossingsOf(7, 1, 0, 3, 7, 2, 0, 2, 9, 1, 0, 3, 9, 2, 0, 2, 9, 3, 0, 3), 9}, {crossingsOf(7, 1, 0, 2, 9, 1, 0, 2, 9, 2, 0, 3), 9}, {crossingsOf(7, 1, 0, -2, 7, 2, 0, -3, 9, 1, 0, -2), 7},
		{crossingsOf(7, 1, -1000, 20000, 9, 1, -1000, 20000, 9, 2, -1000, 19999), 7}, {crossingsOf(7, 1, -1000, 20000, 7, 2, -1000, 19999, 9, 1, 20000, -1000), 9}, {crossingsOf(9, 1, 20000, -1000, 7, 1, -1000, 20000), 7},
	} {
		if line, ok := impl.WorstLine(c.list); !ok || line != c.want {
			t.Error(c, line, ok)
		}
	}
	for _, list := range crossingLists() {
		line, ok := impl.WorstLine(list)
		if ok != (len(list) > 0) || !ok && line != 0 {
			t.Error(list, line, ok)
		}
		if ok && line != plainWorst(list) {
			t.Error(list, line, plainWorst(list))
		}
	}
	for _, list := range wrongCrossingLists() {
		if line, ok := impl.WorstLine(list); ok || line != 0 {
			t.Error(list, line, ok)
		}
	}
}

// plainWorst returns the Line with the greatest offset without sign.
func plainWorst(list []impl.Crossing) int {
	worst, greatest := 0, big.NewRat(-1, 1)
	for _, line := range linesMet(list) {
		offset := plainMeanOf(list, isOf(line))
		if offset.Abs(offset).Cmp(greatest) > 0 {
			worst, greatest = line, offset
		}
	}
	return worst
}

func TestP10TheWorstLineInEveryOrder(t *testing.T) {
	list := crossingsOf(9, 1, 0, 10, 4, 1, 0, -10, 6, 1, 0, 20, 6, 2, 0, 0, 30, 1, 0, 9)
	var check func(taken, left []impl.Crossing)
	check = func(taken, left []impl.Crossing) {
		if line, ok := impl.WorstLine(taken); ok != (len(taken) > 0) || ok && line != plainWorst(taken) {
			t.Error(taken, line, ok)
		}
		for i, c := range left {
			check(append(slices.Clone(taken), c), slices.Delete(slices.Clone(left), i, i+1))
		}
	}
	check(nil, list)
}

func TestP10CorrectLine(t *testing.T) {
	l := crossingsOf(1, 10, 1000, 1010, 1, 11, 1000, 1030, 2, 10, -20, -25)
	for _, c := range []struct {
		list     []impl.Crossing
		line, by int
		want     []impl.Crossing
	}{
		{l, 1, 20, crossingsOf(1, 10, 1020, 1010, 1, 11, 1020, 1030, 2, 10, -20, -25)}, {l, 2, 20, crossingsOf(1, 10, 1000, 1010, 1, 11, 1000, 1030, 2, 10, 0, -25)}, {l, 2, -5, crossingsOf(1, 10, 1000, 1010, 1, 11, 1000, 1030, 2, 10, -25, -25)}, {l, 1, 0, l}, {l, 2, 0, l},
		// As much as leaves just a depth.
		{l, 1, -2000, crossingsOf(1, 10, -1000, 1010, 1, 11, -1000, 1030, 2, 10, -20, -25)}, {l, 1, 19000, crossingsOf(1, 10, 20000, 1010, 1, 11, 20000, 1030, 2, 10, -20, -25)}, {l, 2, -980, crossingsOf(1, 10, 1000, 1010, 1, 11, 1000, 1030, 2, 10, -1000, -25)}, {l, 2, 20020, crossingsOf(1, 10, 1000, 1010, 1, 11, 1000, 1030, 2, 10, 20000, -25)},
		{checksOf(-1000, 20000), 5, 21000, checksOf(20000, 20000)}, {checksOf(20000, -1000), 5, -21000, checksOf(-1000, -1000)}, {checksOf(-1000, 5, 20000, 5), 5, 0, checksOf(-1000, 5, 20000, 5)}, {checksOf(-999, 5, 19999, 5), 5, 1, checksOf(-998, 5, 20000, 5)}, {checksOf(-999, 5, 19999, 5), 5, -1, checksOf(-1000, 5, 19998, 5)},
		// Only this Line, wherever it is, and neither a Cross with its number nor a Check.
		{crossingsOf(3, 4, 0, 1, 4, 3, 0, 2), 3, 7, crossingsOf(3, 4, 7, 1, 4, 3, 0, 2)}, {crossingsOf(3, 4, 0, 1, 4, 3, 0, 2), 4, 7, crossingsOf(3, 4, 0, 1, 4, 3, 7, 2)}, {crossingsOf(9, 1, 5, 20000, 4, 2, 6, -1000, 9, 3, 7, 0), 9, 100, crossingsOf(9, 1, 105, 20000, 4, 2, 6, -1000, 9, 3, 107, 0)},
		{crossingsOf(4, 1, 20000, 5, 9, 1, -1000, 5), 9, 21000, crossingsOf(4, 1, 20000, 5, 9, 1, 20000, 5)}, {crossingsOf(4, 1, -1000, 5, 9, 1, 20000, 5), 9, -21000, crossingsOf(4, 1, -1000, 5, 9, 1, -1000, 5)},
	} {
		if corrected, ok := impl.CorrectLine(c.list, c.line, c.by); !ok || !slices.Equal(corrected, c.want) {
			t.Error(c, corrected, ok)
		}
	}
}

// bysOf are corrections within all numbers, around those that leave just a depth, and beyond all numbers.
func bysOf(list []impl.Crossing) []int {
	bys := []int{0, 1, -1, 20, -300, 21000, 21001, -21000, -21001, math.MinInt, math.MinInt + 1, math.MinInt + 999, math.MinInt + 1000, math.MinInt + 1001, math.MaxInt, math.MaxInt - 1, math.MaxInt - 19999, math.MaxInt - 20000, 1 << 62, -1 << 62, 1 << 32, -1 << 32}
	for _, c := range list {
		bys = append(bys, -1000-c.Main, -1001-c.Main, 20000-c.Main, 20001-c.Main, c.Check-c.Main)
	}
	return bys
}

// plainCorrected returns the Crossings with a corrected Line, and whether all its Mains are depths.
func plainCorrected(list []impl.Crossing, line, by int) ([]impl.Crossing, bool) {
	corrected := slices.Clone(list)
	for i := range corrected {
		if corrected[i].Line != line {
			continue
		}
		main := new(big.Int).Add(big.NewInt(int64(corrected[i].Main)), big.NewInt(int64(by)))
		if main.Cmp(big.NewInt(-1000)) < 0 || main.Cmp(big.NewInt(20000)) > 0 {
			return nil, false
		}
		corrected[i].Main = int(main.Int64())
	}
	return corrected, slices.Contains(linesMet(list), line)
}

func TestP10EveryCorrection(t *testing.T) {
	for _, list := range crossingLists() {
		for _, line := range append(linesMet(list), -1, 0, 2, 100, math.MinInt, math.MaxInt) {
			for _, by := range bysOf(list) {
				want, isDone := plainCorrected(list, line, by)
				if !isDone {
					want = nil
				}
				if corrected, ok := impl.CorrectLine(list, line, by); ok != isDone || !slices.Equal(corrected, want) {
					t.Error(list, line, by, corrected, ok)
				}
			}
		}
	}
	for _, list := range wrongCrossingLists() {
		// No correction makes them valid.
		for _, c := range append(slices.Clone(list), ford()) {
			for _, by := range []int{0, 1, -1, 400, 21000, -21000, math.MaxInt, math.MinInt, 400 - c.Main} {
				if corrected, ok := impl.CorrectLine(list, c.Line, by); ok || len(corrected) != 0 {
					t.Error(list, c.Line, by, corrected, ok)
				}
			}
		}
	}
}

func TestP10ALineThatIsCorrectedByItsOffsetHasNone(t *testing.T) {
	count := 0
	for _, list := range crossingLists() {
		for _, line := range linesMet(list) {
			num, den, ok := impl.OffsetOfLine(list, line)
			corrected, isDone := impl.CorrectLine(list, line, num)
			if !ok || den != 1 || !isDone {
				continue
			}
			count++
			if num, den, ok := impl.OffsetOfLine(corrected, line); !ok || num != 0 || den != 1 {
				t.Error(list, line, corrected, num, den, ok)
			}
		}
	}
	if count == 0 {
		t.Error("no Line was corrected")
	}
}

func TestP10SmallestFixed(t *testing.T) {
	l := crossingsOf(1, 10, 1000, 1010, 1, 11, 1000, 1030, 2, 10, -20, -25)
	for _, c := range []struct {
		list          []impl.Crossing
		percent, want int
	}{
		{l, 1, 20}, {l, 0, 30}, {l, 2, 10}, {l, 3, 5}, {l, 100, 5}, {nil, 1, 0}, {nil, 0, 0}, {nil, 100, 0}, {[]impl.Crossing{}, 50, 0},
		{differencesOf(0), 0, 0}, {differencesOf(0, 0), 100, 0}, {differencesOf(1), 0, 1}, {differencesOf(-1), 0, 1}, {differencesOf(5, -6, 4), 0, 6}, {differencesOf(5, -6, 7), 0, 7}, {differencesOf(-7, 6, 5), 0, 7}, {differencesOf(5, -6, 7), 100, 7},
		// Never less than 0, however much is tolerated.
		{checksOf(400, 400), 100, 0}, {checksOf(400, 404), 1, 0}, {checksOf(400, 403), 1, 0}, {checksOf(400, 405), 1, 1}, {checksOf(400, 396), 1, 0}, {checksOf(400, 395), 1, 1}, {checksOf(20000, 20000), 100, 0}, {checksOf(20000, 0), 100, 0}, {checksOf(20000, -1), 100, 1}, {checksOf(20000, 20000, 5, 6), 0, 1},
		// Up to whole centimeters.
		{checksOf(399, 403), 1, 1}, {checksOf(399, 402), 1, 0}, {checksOf(301, 305), 1, 1}, {checksOf(301, 304), 1, 0}, {checksOf(350, 360), 1, 7}, {checksOf(350, 340), 1, 7}, {checksOf(1, 2), 99, 1}, {checksOf(1, 2), 100, 0}, {checksOf(1, 2), 1, 1}, {checksOf(1, 12), 1, 11}, {checksOf(99, 89), 1, 10}, {checksOf(100, 90), 1, 9}, {checksOf(101, 91), 1, 9}, {checksOf(3, 4), 33, 1}, {checksOf(3, 4), 34, 0},
		// No percentage of a Main that is 0 or negative.
		{checksOf(0, 7), 100, 7}, {checksOf(0, -7), 100, 7}, {checksOf(-100, -107), 100, 7}, {checksOf(-100, -93), 100, 7}, {checksOf(-100, 50), 100, 150}, {checksOf(100, -50), 100, 50}, {checksOf(-1000, -1000), 100, 0},
		// More than 500.
		{differencesOf(500), 0, 500}, {differencesOf(501), 0, 501}, {differencesOf(-501), 0, 501}, {checksOf(-1000, 20000), 0, 21000}, {checksOf(-1000, 20000), 100, 21000}, {checksOf(20000, -1000), 0, 21000}, {checksOf(20000, -1000), 100, 1000}, {checksOf(20000, -1000), 1, 20800}, {checksOf(19999, -1000), 1, 20800}, {checksOf(20000, -1000, -1000, 20000), 99, 21000},
	} {
		if n, ok := impl.SmallestFixed(c.list, c.percent); !ok || n != c.want {
			t.Error(c, n, ok)
		}
	}
	for _, list := range wrongCrossingLists() {
		for _, percent := range []int{0, 1, 100} {
			if n, ok := impl.SmallestFixed(list, percent); ok || n != 0 {
				t.Error(list, percent, n, ok)
			}
		}
	}
	for _, list := range crossingLists() {
		for _, percent := range wrongPercentages {
			if n, ok := impl.SmallestFixed(list, percent); ok || n != 0 {
				t.Error(list, percent, n, ok)
			}
		}
	}
}

func TestP10WithTheSmallestFixedNumberAllAreToleratedAndWithOneLessNotAll(t *testing.T) {
	for _, list := range crossingLists() {
		for percent := range 101 {
			n, ok := impl.SmallestFixed(list, percent)
			if !ok || n < 0 || len(plainNotTolerated(list, n, percent)) > 0 || n > 0 && len(plainNotTolerated(list, n-1, percent)) == 0 {
				t.Error(list, percent, n, ok)
			}
			if indices, ok := impl.NotTolerated(list, min(n, 500), percent); !ok || (len(indices) == 0) != (n <= 500) {
				t.Error(list, percent, n, indices, ok)
			}
			if 0 < n && n <= 501 {
				if indices, ok := impl.NotTolerated(list, n-1, percent); !ok || len(indices) == 0 {
					t.Error(list, percent, n, indices, ok)
				}
			}
		}
	}
}

func TestP29CrossingFunctionsLeaveTheirArguments(t *testing.T) {
	// What lies behind the length of the list is neither read nor written.
	whole := append(crossingsOf(9, 1, 100, 110, 4, 1, 200, 170, 9, 2, 300, 325), impl.Crossing{}, impl.Crossing{Line: 9, Cross: 1}, ford())
	before := slices.Clone(whole)
	for size := range len(whole) + 1 {
		list := whole[:size]
		valid, isAny := size <= 3, 1 <= size && size <= 3
		if impl.AreCrossings(list) != valid {
			t.Error("AreCrossings", size)
		}
		if num, den, ok := impl.MeanDifference(list); ok != isAny || ok && (num != []int{0, 10, -10, 5}[size] || den != []int{0, 1, 1, 3}[size]) {
			t.Error("MeanDifference", size, num, den, ok)
		}
		if i, d, ok := impl.GreatestDifference(list); ok != isAny || ok && (i != []int{0, 0, 1, 1}[size] || d != []int{0, 10, -30, -30}[size]) {
			t.Error("GreatestDifference", size, i, d, ok)
		}
		if indices, ok := impl.NotTolerated(list, 9, 0); ok != valid || ok && !slices.Equal(indices, []int{0, 1, 2}[:size]) || !ok && len(indices) != 0 {
			t.Error("NotTolerated", size, indices, ok)
		}
		if passes, ok := impl.PassesTest(list, 10, 0, 33); ok != isAny || passes != isAny {
			t.Error("PassesTest", size, passes, ok)
		}
		if num, den, ok := impl.OffsetOfLine(list, 9); ok != isAny || ok && (num != []int{0, 10, 10, 35}[size] || den != []int{0, 1, 1, 2}[size]) {
			t.Error("OffsetOfLine", size, num, den, ok)
		}
		if line, ok := impl.WorstLine(list); ok != isAny || ok && line != []int{0, 9, 4, 4}[size] {
			t.Error("WorstLine", size, line, ok)
		}
		want, _ := plainCorrected(before[:min(size, 3)], 9, 7)
		if corrected, ok := impl.CorrectLine(list, 9, 7); ok != isAny || ok && !slices.Equal(corrected, want) || !ok && len(corrected) != 0 {
			t.Error("CorrectLine", size, corrected, ok)
		}
		if corrected, ok := impl.CorrectLine(list, 4, 19801); ok || len(corrected) != 0 {
			t.Error("CorrectLine", size, corrected, ok)
		}
		if n, ok := impl.SmallestFixed(list, 1); ok != valid || ok && n != []int{0, 9, 28, 28}[size] {
			t.Error("SmallestFixed", size, n, ok)
		}
	}
	if !slices.Equal(whole, before) {
		t.Error("the Crossings are now", whole)
	}
}

func TestP29CrossingResultsShareNothing(t *testing.T) {
	for _, count := range []int{1, 3, 5, 10} {
		// The list has room behind its length, in which no result may lie.
		room := make([]impl.Crossing, count, 12)
		copy(room, manyCrossings(count))
		for _, by := range []int{0, 5} {
			want, _ := plainCorrected(manyCrossings(count), 7, by)
			indices, _ := impl.NotTolerated(room, 0, 0)
			others, _ := impl.NotTolerated(room, 0, 0)
			corrected, _ := impl.CorrectLine(room, 7, by)
			again, _ := impl.CorrectLine(room, 7, by)
			if len(indices) == 0 || !slices.Equal(indices, plainNotTolerated(room, 0, 0)) || !slices.Equal(corrected, want) {
				t.Error("other results", indices, corrected)
			}
			for i := range indices {
				indices[i] = -7
			}
			for i := range corrected {
				corrected[i] = impl.Crossing{Line: -7}
			}
			_, _ = append(indices, -8), append(corrected, impl.Crossing{Line: -8})
			if !slices.Equal(others, plainNotTolerated(room, 0, 0)) || !slices.Equal(again, want) {
				t.Error("the other results are now", others, again)
			}
		}
		if !slices.Equal(room[:12], append(manyCrossings(count), make([]impl.Crossing, 12-count)...)) {
			t.Error("the Crossings are now", room[:12])
		}
	}
}

func TestP29CrossingFunctionsReturnForAllArguments(t *testing.T) {
	numbers := []int{math.MinInt, math.MinInt + 1, -21001, -1001, -1000, -1, 0, 1, 5, 7, 99, 100, 101, 500, 501, 20000, 20001, 21001, 1 << 62, -1 << 62, math.MaxInt}
	for _, a := range numbers {
		for _, b := range numbers {
			checkCrossings(t, nil, a, b)
			checkCrossings(t, manyCrossings(10), a, b)
			checkCrossings(t, manyCrossings(11), a, b)
			checkCrossings(t, crossingsOf(a, b, b, a), a, b)
			checkCrossings(t, crossingsOf(b, a, b, a, 1, a, b, b), b, a)
			checkCrossings(t, checksOf(a, b, b, a, a, a), a, b)
			checkCrossings(t, crossingsOf(a, 1, a, b, b, 1, b, a), b, a)
		}
	}
	long := make([]impl.Crossing, 1000000)
	for i := range long {
		long[i] = impl.Crossing{Line: 1 + i%99, Cross: 1 + i/99%99}
	}
	checkCrossings(t, long, 1, 2)
}

// checkCrossings tells whether the functions of a list return something only if they succeed.
func checkCrossings(t *testing.T, list []impl.Crossing, a, b int) {
	t.Helper()
	valid := impl.AreCrossings(list)
	isAny, isFixed, isPercentage := valid && len(list) > 0, 0 <= a && a <= 500, 0 <= b && b <= 100
	isThere := valid && slices.Contains(linesMet(list), a)
	if num, den, ok := impl.MeanDifference(list); ok != isAny || ok && (den < 1 || den > 10 || num < -21000*den || num > 21000*den) || !ok && (num != 0 || den != 0) {
		t.Error("mean", num, den, ok)
	}
	if i, d, ok := impl.GreatestDifference(list); ok != isAny || ok && (i < 0 || i >= len(list) || d != list[i].Check-list[i].Main) || !ok && (i != 0 || d != 0) {
		t.Error("greatest", i, d, ok)
	}
	if indices, ok := impl.NotTolerated(list, a, b); ok != (valid && isFixed && isPercentage) || len(indices) > len(list) || !ok && len(indices) != 0 {
		t.Error("not tolerated", a, b, indices, ok)
	}
	for _, share := range []int{a, b, 0, 100} {
		if passes, ok := impl.PassesTest(list, a, b, share); ok != (isAny && isFixed && isPercentage && 0 <= share && share <= 100) || !ok && passes {
			t.Error("passes", a, b, share, passes, ok)
		}
	}
	if num, den, ok := impl.OffsetOfLine(list, a); ok != isThere || ok && (den < 1 || den > 10) || !ok && (num != 0 || den != 0) {
		t.Error("offset", a, num, den, ok)
	}
	if line, ok := impl.WorstLine(list); ok != isAny || ok && !slices.Contains(linesMet(list), line) || !ok && line != 0 {
		t.Error("worst", line, ok)
	}
	corrected, ok := impl.CorrectLine(list, a, b)
	if ok && (!isThere || !impl.AreCrossings(corrected) || len(corrected) != len(list)) || !ok && len(corrected) != 0 {
		t.Error("corrected", a, b, corrected, ok)
	}
	if corrected, ok := impl.CorrectLine(list, a, 0); ok != isThere || ok && !slices.Equal(corrected, list) || !ok && len(corrected) != 0 {
		t.Error("corrected", a, corrected, ok)
	}
	if n, ok := impl.SmallestFixed(list, b); ok != (valid && isPercentage) || n < 0 || n > 21000 || !ok && n != 0 {
		t.Error("fixed", b, n, ok)
	}
}
