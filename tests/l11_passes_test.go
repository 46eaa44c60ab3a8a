package tests

import (
	"math"
	"math/big"
	"slices"
	"testing"

	"loop.example/g01031/impl"
)

// passesOf makes Passes of six numbers each: Line, Begin, End, Pings, Bad and Course.
func passesOf(numbers ...int) []impl.Pass {
	list := []impl.Pass{}
	for i := 0; i+5 < len(numbers); i += 6 {
		n := numbers[i : i+6]
		list = append(list, impl.Pass{Line: n[0], Begin: n[1], End: n[2], Pings: n[3], Bad: n[4], Course: n[5]})
	}
	return list
}

// spansOn makes Passes of the Line 4 without Pings of pairs of a Begin and an End.
func spansOn(numbers ...int) []impl.Pass {
	list := []impl.Pass{}
	for i := 0; i+1 < len(numbers); i += 2 {
		list = append(list, impl.Pass{Line: 4, Begin: numbers[i], End: numbers[i+1]})
	}
	return list
}

// pingsOn makes Passes of the Lines, Pings and Bad ones of three numbers each, which touch.
func pingsOn(numbers ...int) []impl.Pass {
	list := []impl.Pass{}
	for i := 0; i+2 < len(numbers); i += 3 {
		list = append(list, impl.Pass{Line: numbers[i], Begin: i, End: i + 3, Pings: numbers[i+1], Bad: numbers[i+2]})
	}
	return list
}

// coursesOn makes Passes of the Line 4 with these Courses.
func coursesOn(courses ...int) []impl.Pass {
	list := []impl.Pass{}
	for i, course := range courses {
		list = append(list, impl.Pass{Line: 4, Begin: 20 * i, End: 20*i + 10 + i, Course: course})
	}
	return list
}

// manyPasses are of several Lines, some of which touch, with Courses to and fro.
func manyPasses(count int) []impl.Pass {
	list, begin := []impl.Pass{}, 3
	for i := range count {
		end := begin + 1 + 13*i%7
		line := []int{8, 3, 8, 500, 3, 999, 8, 3, 1, 500, 8, 1}[i%12]
		list = append(list, impl.Pass{Line: line, Begin: begin, End: end, Pings: 40 + 10*(i%4), Bad: []int{4, 5, 0, 7, 3, 2, 9}[i%7], Course: (90 + 180*i + 7*(i%3)) % 360})
		begin = end + i*5%4
	}
	return list
}

// leg is a valid Pass of which each number is another one.
func leg() impl.Pass {
	return impl.Pass{Line: 6, Begin: 300, End: 330, Pings: 80, Bad: 7, Course: 45}
}

// legWith changes a valid Pass.
func legWith(change func(*impl.Pass)) impl.Pass {
	p := leg()
	change(&p)
	return p
}

// goodPasses are at the limits or within them.
func goodPasses() []impl.Pass {
	return passesOf(6, 300, 330, 80, 7, 45, 1, 0, 1, 0, 0, 0, 999, 9999, 10000, 100000, 100000, 359, 1, 0, 10000, 100000, 0, 359, 999, 0, 10000, 0, 0, 0, 500, 4999, 5000, 1, 0, 180, 500, 4999, 5000, 1, 1, 180,
		2, 1, 9999, 99999, 99999, 358, 998, 1, 2, 99999, 99998, 1, 77, 77, 78, 77, 77, 77, 5, 4, 5, 100000, 99999, 4, 100, 300, 301, 359, 359, 100, 1, 9999, 10000, 10, 1, 0, 1, 0, 1, 10, 2, 359)
}

// wrongPassLines are beyond a limit, by one or by far.
var wrongPassLines = []int{-999, -1, 0, 1000, 1001, math.MinInt, math.MaxInt, 1 << 62, -1 << 62, 1<<32 + 5}

// wrongPasses are beyond one limit each, by one or by far.
func wrongPasses() []impl.Pass {
	list := append(passesOf(0, 300, 330, 80, 7, 45, 6, 300, 300, 80, 7, 45, 6, 300, 299, 80, 7, 45, 6, 0, 0, 0, 0, 0, 6, 10000, 10000, 0, 0, 0, 6, 10000, 10001, 0, 0, 0, 6, -1, 0, 0, 0, 0, 6, -1, 1, 0, 0, 0, 6, 9999, 10001, 0, 0, 0, 6, 10000, 9999, 0, 0, 0, 6, 10000, 0, 0, 0, 0),
		impl.Pass{}, impl.Pass{Line: 6}, impl.Pass{End: 10}, impl.Pass{Begin: 10}, impl.Pass{Begin: math.MinInt, End: math.MaxInt}, impl.Pass{Line: 6, Begin: math.MaxInt, End: math.MinInt})
	for _, n := range wrongPassLines {
		list = append(list, legWith(func(p *impl.Pass) { p.Line = n }))
	}
	for _, n := range wrongTimes {
		list = append(list, legWith(func(p *impl.Pass) { p.Begin = n }), legWith(func(p *impl.Pass) { p.End = n }), legWith(func(p *impl.Pass) { p.Begin, p.End = n, n }), legWith(func(p *impl.Pass) { p.Begin, p.End = n, n+1 }), legWith(func(p *impl.Pass) { p.Begin, p.End = n-1, n }))
	}
	for _, n := range []int{math.MinInt, -80, -1, 0, 6, 100001, 100002, math.MaxInt} {
		// Without change of the Bad ones, which are then too many, or else with it.
		list = append(list, legWith(func(p *impl.Pass) { p.Pings = n }))
		if n < 0 || n > 6 {
			list = append(list, legWith(func(p *impl.Pass) { p.Pings, p.Bad = n, n }), legWith(func(p *impl.Pass) { p.Pings, p.Bad = n, 0 }))
		}
	}
	for _, n := range []int{math.MinInt, -7, -1, 81, 82, 100000, 100001, math.MaxInt} {
		list = append(list, legWith(func(p *impl.Pass) { p.Bad = n }))
	}
	for _, n := range []int{math.MinInt, -180, -1, 360, 361, 405, math.MaxInt} {
		list = append(list, legWith(func(p *impl.Pass) { p.Course = n }))
	}
	return append(list, legWith(func(p *impl.Pass) { p.Pings, p.Bad = 0, 1 }), legWith(func(p *impl.Pass) { p.Pings, p.Bad = 100000, 100001 }), legWith(func(p *impl.Pass) { p.Pings, p.Bad = 1, -1 }))
}

// passLists are valid, from none to the most.
func passLists() [][]impl.Pass {
	lists := [][]impl.Pass{
		nil, {}, passesOf(1, 0, 10, 100, 10, 0, 1, 10, 20, 100, 5, 180, 2, 50, 60, 10, 2, 90),
		// Passes that touch, that are of one minute, that are far apart and that have all of the Times.
		spansOn(0, 1, 1, 2, 2, 3), spansOn(0, 10000), spansOn(0, 1, 9999, 10000), spansOn(0, 5000, 5000, 10000), spansOn(7, 9, 9, 20, 21, 30), spansOn(0, 1, 3, 4, 6, 7), spansOn(5, 6, 7, 8, 8, 9, 20, 30, 31, 9998),
		spansOn(0, 1, 2, 3, 4, 5, 6, 7, 8, 9, 10, 11, 12, 13, 14, 15, 16, 17, 18, 19, 20, 21, 22, 10000), spansOn(0, 9978, 9978, 9980, 9980, 9982, 9982, 9984, 9985, 9986, 9987, 9988, 9989, 9990, 9991, 9992, 9993, 9994, 9995, 9996, 9997, 9998, 9999, 10000),
		// No Pings, all of them bad, and a tenth of them or one more, of one Pass and of several.
		pingsOn(4, 0, 0), pingsOn(4, 0, 0, 4, 0, 0, 9, 10, 0), pingsOn(4, 1, 0), pingsOn(4, 1, 1), pingsOn(4, 9, 1), pingsOn(4, 10, 1), pingsOn(4, 11, 1), pingsOn(4, 10, 2), pingsOn(4, 19, 2), pingsOn(4, 20, 2), pingsOn(4, 100000, 10000), pingsOn(4, 100000, 10001), pingsOn(4, 99999, 10000), pingsOn(4, 100000, 100000), pingsOn(4, 100000, 0),
		pingsOn(4, 50, 9, 4, 50, 1), pingsOn(4, 50, 9, 4, 50, 2), pingsOn(4, 50, 1, 6, 50, 9, 4, 50, 9), pingsOn(4, 50, 1, 6, 50, 9, 4, 0, 0, 6, 40, 0), pingsOn(4, 5, 5, 4, 45, 0), pingsOn(4, 5, 5, 4, 44, 0), pingsOn(6, 0, 0, 4, 0, 0, 6, 10, 1),
		pingsOn(999, 10, 1, 5, 10, 1, 999, 10, 0, 1, 10, 1, 5, 10, 1, 400, 10, 2), pingsOn(12, 1, 0, 11, 1, 0, 10, 1, 0, 9, 1, 0, 8, 1, 0, 7, 1, 0, 6, 1, 0, 5, 1, 0, 4, 1, 0, 3, 1, 0, 2, 1, 0, 1, 1, 0), pingsOn(7, 100000, 1, 7, 100000, 2, 7, 100000, 3, 7, 100000, 4, 7, 100000, 5, 7, 100000, 6, 7, 100000, 7, 7, 100000, 8, 7, 100000, 9, 7, 100000, 10, 7, 100000, 11, 7, 100000, 100000),
		coursesOn(0, 180), coursesOn(0, 169, 170, 190, 191), coursesOn(270, 90, 270, 90, 269, 91, 100, 280, 101, 281, 0, 180), coursesOn(359, 169, 170, 189, 190, 168), coursesOn(350, 160, 170, 180, 159, 181), coursesOn(80, 80, 260, 260),
	}
	for _, p := range goodPasses() {
		lists = append(lists, []impl.Pass{p})
	}
	for count := 1; count <= impl.MaxPasses; count++ {
		lists = append(lists, manyPasses(count))
	}
	return lists
}

// wrongPassLists are too many, overlap, are not in order, or have one Pass that is not valid.
func wrongPassLists() [][]impl.Pass {
	lists := [][]impl.Pass{
		manyPasses(impl.MaxPasses + 1), append(manyPasses(impl.MaxPasses), leg()), append([]impl.Pass{{Line: 1, End: 3}}, manyPasses(impl.MaxPasses)...), make([]impl.Pass, 3), make([]impl.Pass, impl.MaxPasses),
		// By a minute, by more, and with all of one in the other.
		spansOn(0, 10, 9, 20), spansOn(0, 10, 5, 20), spansOn(0, 10, 1, 9), spansOn(0, 10000, 9999, 10000), spansOn(0, 20, 20, 30, 29, 40), spansOn(0, 20, 19, 30, 30, 40), spansOn(0, 30, 10, 20, 30, 40), spansOn(0, 5, 10, 20, 12, 14, 20, 25), spansOn(0, 30, 30, 31, 20, 40),
		// Equal Begins, the same Pass twice and the wrong order.
		spansOn(0, 10, 0, 10), spansOn(0, 10, 0, 11), spansOn(0, 11, 0, 10), spansOn(0, 1, 0, 1), spansOn(5, 6, 5, 6, 7, 8), spansOn(1, 2, 5, 6, 5, 6), spansOn(10, 20, 0, 10), spansOn(10, 20, 0, 5), spansOn(1, 2, 0, 1), spansOn(0, 5, 20, 30, 10, 15), spansOn(9999, 10000, 0, 1),
		append(manyPasses(1), manyPasses(1)...), append(manyPasses(3), manyPasses(3)...), append(manyPasses(3), manyPasses(3)[2]), slices.Concat(manyPasses(4)[2:], manyPasses(4)[:2]),
	}
	for _, wrong := range wrongPasses() {
		lists = append(lists, []impl.Pass{wrong})
		for i := range 3 {
			// In front of, between and behind Passes that leave room for one that is valid.
			list := spansOn(1, 250, 260, 290, 340, 350, 400, 9990)
			list[i+1] = wrong
			lists = append(lists, list)
			if i > 0 {
				lists = append(lists, slices.Insert(spansOn(1, 250, 340, 350, 400, 9990), i, wrong))
			}
		}
	}
	return lists
}

// isBusy tells whether the minute that begins at a time is in a Pass.
func isBusy(list []impl.Pass, minute int) bool {
	return slices.ContainsFunc(list, func(p impl.Pass) bool { return p.Begin <= minute && minute < p.End })
}

// plainBusy counts the minutes from one time to another that are in Passes.
func plainBusy(list []impl.Pass, from, to int) int {
	n := 0
	for minute := from; minute < to; minute++ {
		if isBusy(list, minute) {
			n++
		}
	}
	return n
}

// passesOn picks the Passes of a Line.
func passesOn(list []impl.Pass, line int) []impl.Pass {
	return slices.DeleteFunc(slices.Clone(list), func(p impl.Pass) bool { return p.Line != line })
}

// plainShare returns the good Pings of a Line divided by all, and nil if there are none.
func plainShare(list []impl.Pass, line int) *big.Rat {
	bad, all := int64(0), int64(0)
	for _, p := range passesOn(list, line) {
		bad, all = bad+int64(p.Bad), all+int64(p.Pings)
	}
	if all == 0 {
		return nil
	}
	return new(big.Rat).Sub(big.NewRat(1, 1), big.NewRat(bad, all))
}

// plainSailed tells whether a Line is sailed.
func plainSailed(list []impl.Pass, line int) bool {
	share := plainShare(list, line)
	return share != nil && share.Cmp(big.NewRat(9, 10)) >= 0
}

// plainSailedLines looks at all Lines that there may be.
func plainSailedLines(list []impl.Pass) []int {
	lines := []int{}
	for line := 1; line <= 999; line++ {
		if plainSailed(list, line) {
			lines = append(lines, line)
		}
	}
	return lines
}

// plainOpposite turns one course from 170 to 190 degrees and looks for the other one.
func plainOpposite(a, b int) bool {
	for turn := 170; turn <= 190; turn++ {
		if (a+turn)%360 == b {
			return true
		}
	}
	return false
}

// sortedByBegin returns the list with one Pass more, in order of the Begins.
func sortedByBegin(list []impl.Pass, p impl.Pass) []impl.Pass {
	put := append(slices.Clone(list), p)
	slices.SortStableFunc(put, func(a, b impl.Pass) int { return a.Begin - b.Begin })
	return put
}

// loggedLines are Lines that occur, with some that do not and that are beside them.
func loggedLines(list []impl.Pass) []int {
	lines := []int{1, 2, 4, 5, 6, 42, 998, 999}
	for _, p := range list {
		lines = append(lines, p.Line, min(999, p.Line+1), max(1, p.Line-1))
	}
	slices.Sort(lines)
	return slices.Compact(lines)
}

// timesAround are Times at the ends of the Passes and beside them.
func timesAround(list []impl.Pass) []int {
	times := []int{0, 1, 2, 5000, 9998, 9999, 10000}
	for _, p := range list {
		for _, time := range []int{p.Begin, p.End} {
			times = append(times, max(0, time-1), time, min(10000, time+1))
		}
	}
	slices.Sort(times)
	return slices.Compact(times)
}

func TestP11IsPass(t *testing.T) {
	for _, p := range goodPasses() {
		if !impl.IsPass(p) {
			t.Error(p)
		}
	}
	for _, p := range wrongPasses() {
		if impl.IsPass(p) {
			t.Error(p)
		}
	}
}

func TestP11ArePasses(t *testing.T) {
	for _, list := range passLists() {
		if !impl.ArePasses(list) {
			t.Error(list)
		}
	}
	for _, list := range wrongPassLists() {
		if impl.ArePasses(list) {
			t.Error(list)
		}
	}
	if impl.MaxPasses != 12 || !impl.ArePasses(manyPasses(12)) || impl.ArePasses(manyPasses(13)) {
		t.Error("the most Passes")
	}
}

func TestP11PassesThatTouchAndPassesThatOverlap(t *testing.T) {
	for begin := range 12 {
		for end := range 12 {
			for next := range 12 {
				for last := range 12 {
					list := spansOn(begin, end, next, last)
					if impl.ArePasses(list) != (begin < end && end <= next && next < last) {
						t.Error(list)
					}
				}
			}
		}
	}
}

func TestP11MinutesOn(t *testing.T) {
	l := passesOf(1, 0, 10, 100, 10, 0, 1, 10, 20, 100, 5, 180, 2, 50, 60, 10, 2, 90)
	for _, c := range []struct {
		list       []impl.Pass
		line, want int
	}{
		{l, 1, 20}, {l, 2, 10}, {l, 3, 0}, {l, 999, 0}, {nil, 1, 0}, {nil, 999, 0}, {[]impl.Pass{}, 500, 0},
		{spansOn(0, 1), 4, 1}, {spansOn(0, 1), 1, 0}, {spansOn(0, 10000), 4, 10000}, {spansOn(9999, 10000), 4, 1}, {spansOn(0, 1, 9999, 10000), 4, 2}, {spansOn(0, 5000, 5000, 10000), 4, 10000}, {spansOn(7, 9, 9, 20, 21, 30), 4, 22},
		// Whatever the Pings are, and not the Begins, Ends, Courses or indices with that number.
		{passesOf(4, 2, 5, 0, 0, 0, 3, 5, 9, 8, 8, 4), 4, 3}, {passesOf(4, 2, 5, 0, 0, 0, 3, 5, 9, 8, 8, 4), 3, 4}, {passesOf(4, 2, 5, 0, 0, 0, 3, 5, 9, 8, 8, 4), 5, 0}, {passesOf(4, 2, 5, 0, 0, 0, 3, 5, 9, 8, 8, 4), 8, 0}, {passesOf(999, 1, 2, 0, 0, 0, 1, 2, 4, 0, 0, 0, 999, 4, 9, 0, 0, 0), 999, 6}, {passesOf(999, 1, 2, 0, 0, 0, 1, 2, 4, 0, 0, 0, 999, 4, 9, 0, 0, 0), 1, 2},
	} {
		if n, ok := impl.MinutesOn(c.list, c.line); !ok || n != c.want {
			t.Error(c, n, ok)
		}
	}
	for _, list := range passLists() {
		for _, line := range loggedLines(list) {
			if n, ok := impl.MinutesOn(list, line); !ok || n != plainBusy(passesOn(list, line), 0, 10000) {
				t.Error(list, line, n, ok)
			}
		}
		for _, line := range wrongPassLines {
			if n, ok := impl.MinutesOn(list, line); ok || n != 0 {
				t.Error(list, line, n, ok)
			}
		}
	}
	for _, list := range wrongPassLists() {
		for _, line := range loggedLines(list) {
			if n, ok := impl.MinutesOn(list, line); ok || n != 0 {
				t.Error(list, line, n, ok)
			}
		}
	}
}

func TestP11BusyShare(t *testing.T) {
	l := passesOf(1, 0, 10, 100, 10, 0, 1, 10, 20, 100, 5, 180, 2, 50, 60, 10, 2, 90)
	for _, c := range []struct {
		list               []impl.Pass
		from, to, num, den int
	}{
		{l, 5, 55, 2, 5}, {l, 0, 60, 1, 2}, {l, 0, 10000, 3, 1000}, {nil, 0, 10000, 0, 1}, {[]impl.Pass{}, 3, 4, 0, 1},
		// Beside all, touching one on either side or two, and one minute further.
		{l, 20, 50, 0, 1}, {l, 19, 50, 1, 31}, {l, 20, 51, 1, 31}, {l, 19, 51, 1, 16}, {l, 60, 10000, 0, 1}, {l, 59, 10000, 1, 9941}, {l, 30, 40, 0, 1}, {l, 9999, 10000, 0, 1}, {l, 20, 21, 0, 1}, {l, 49, 50, 0, 1}, {l, 60, 61, 0, 1}, {spansOn(10, 20), 0, 10, 0, 1}, {spansOn(10, 20), 0, 11, 1, 11}, {spansOn(10, 20), 20, 30, 0, 1}, {spansOn(10, 20), 0, 5, 0, 1},
		// In one, all of one, and all of one that is in it.
		{l, 2, 9, 1, 1}, {l, 0, 10, 1, 1}, {l, 50, 60, 1, 1}, {l, 49, 61, 5, 6}, {l, 50, 61, 10, 11}, {l, 49, 60, 10, 11}, {l, 40, 70, 1, 3}, {l, 55, 56, 1, 1}, {l, 50, 51, 1, 1}, {l, 59, 60, 1, 1},
		// Over two that touch, which have all of it, and from one into another one.
		{l, 0, 20, 1, 1}, {l, 9, 11, 1, 1}, {l, 0, 21, 20, 21}, {l, 15, 55, 1, 4}, {l, 19, 60, 11, 41}, {l, 5, 25, 3, 4}, {l, 45, 55, 1, 2}, {l, 55, 65, 1, 2},
		{spansOn(0, 10000), 0, 10000, 1, 1}, {spansOn(0, 10000), 4999, 5000, 1, 1}, {spansOn(0, 10000), 9999, 10000, 1, 1}, {spansOn(0, 1, 9999, 10000), 0, 10000, 1, 5000}, {spansOn(0, 1, 9999, 10000), 1, 9999, 0, 1}, {spansOn(0, 9999), 0, 10000, 9999, 10000}, {spansOn(1, 2, 4, 5, 7, 8), 0, 9, 1, 3}, {spansOn(1, 3, 4, 6, 7, 9), 0, 9, 2, 3}, {spansOn(1, 3, 4, 6, 7, 9), 1, 9, 3, 4},
	} {
		if num, den, ok := impl.BusyShare(c.list, c.from, c.to); !ok || num != c.num || den != c.den {
			t.Error(c, num, den, ok)
		}
	}
}

func TestP11EveryBusyShare(t *testing.T) {
	for _, list := range passLists() {
		times := timesAround(list)
		for i, from := range times {
			for _, to := range times[i+1:] {
				if num, den, ok := impl.BusyShare(list, from, to); !ok || !isFraction(num, den, plainBusy(list, from, to), to-from) {
					t.Error(list, from, to, num, den, ok)
				}
				if num, den, ok := impl.BusyShare(list, to, from); ok || num != 0 || den != 0 {
					t.Error(list, to, from, num, den, ok)
				}
			}
			if num, den, ok := impl.BusyShare(list, from, from); ok || num != 0 || den != 0 {
				t.Error(list, from, num, den, ok)
			}
			for _, wrong := range wrongTimes {
				for _, c := range [][2]int{{from, wrong}, {wrong, from}, {wrong, wrong}, {wrong, wrong + 1}} {
					if num, den, ok := impl.BusyShare(list, c[0], c[1]); ok || num != 0 || den != 0 {
						t.Error(list, c, num, den, ok)
					}
				}
			}
		}
	}
	for _, list := range wrongPassLists() {
		for _, c := range [][2]int{{0, 10000}, {0, 1}, {5, 55}, {300, 330}, {9999, 10000}} {
			if num, den, ok := impl.BusyShare(list, c[0], c[1]); ok || num != 0 || den != 0 {
				t.Error(list, c, num, den, ok)
			}
		}
	}
}

func TestP11MinutesOnLinesAreTheBusyOnes(t *testing.T) {
	for _, list := range passLists() {
		sum := 0
		for line := 1; line <= 999; line++ {
			n, ok := impl.MinutesOn(list, line)
			if !ok || n < 0 {
				t.Error(list, line, n, ok)
			}
			sum += n
		}
		if num, den, ok := impl.BusyShare(list, 0, 10000); !ok || num*10000 != sum*den {
			t.Error(list, sum, num, den, ok)
		}
		if len(list) == 0 {
			continue
		}
		from, to := list[0].Begin, list[len(list)-1].End
		if num, den, ok := impl.BusyShare(list, from, to); !ok || num*(to-from) != sum*den {
			t.Error(list, from, to, sum, num, den, ok)
		}
	}
}

func TestP11GoodShare(t *testing.T) {
	l := passesOf(1, 0, 10, 100, 10, 0, 1, 10, 20, 100, 5, 180, 2, 50, 60, 10, 2, 90)
	for _, c := range []struct {
		list           []impl.Pass
		line, num, den int
	}{
		{l, 1, 37, 40}, {l, 2, 4, 5}, {pingsOn(4, 1, 0), 4, 1, 1}, {pingsOn(4, 1, 1), 4, 0, 1}, {pingsOn(4, 100000, 0), 4, 1, 1}, {pingsOn(4, 100000, 100000), 4, 0, 1}, {pingsOn(4, 100000, 1), 4, 99999, 100000}, {pingsOn(4, 100000, 99999), 4, 1, 100000}, {pingsOn(4, 7, 2), 4, 5, 7}, {pingsOn(4, 10, 1), 4, 9, 10}, {pingsOn(4, 100, 10), 4, 9, 10}, {pingsOn(4, 100000, 10000), 4, 9, 10},
		// Together, also with Passes without Pings, and without those of other Lines.
		{pingsOn(4, 50, 9, 4, 50, 1), 4, 9, 10}, {pingsOn(4, 50, 9, 4, 50, 2), 4, 89, 100}, {pingsOn(4, 1, 1, 4, 3, 0), 4, 3, 4}, {pingsOn(4, 0, 0, 4, 3, 1, 4, 0, 0), 4, 2, 3}, {pingsOn(4, 3, 1, 5, 10, 10, 4, 3, 0), 4, 5, 6}, {pingsOn(4, 3, 1, 5, 10, 10, 4, 3, 0), 5, 0, 1}, {pingsOn(4, 1, 0, 4, 1, 1), 4, 1, 2}, {pingsOn(4, 7, 7, 4, 9, 9), 4, 0, 1}, {pingsOn(4, 7, 0, 4, 9, 0), 4, 1, 1},
	} {
		if num, den, ok := impl.GoodShare(c.list, c.line); !ok || num != c.num || den != c.den {
			t.Error(c, num, den, ok)
		}
	}
	for _, list := range passLists() {
		for _, line := range loggedLines(list) {
			want := plainShare(list, line)
			num, den, ok := impl.GoodShare(list, line)
			if ok != (want != nil) || ok && !isExactly(num, den, want) || !ok && (num != 0 || den != 0) {
				t.Error(list, line, num, den, ok)
			}
		}
		for _, line := range wrongPassLines {
			if num, den, ok := impl.GoodShare(list, line); ok || num != 0 || den != 0 {
				t.Error(list, line, num, den, ok)
			}
		}
	}
	for _, list := range wrongPassLists() {
		for _, line := range loggedLines(list) {
			if num, den, ok := impl.GoodShare(list, line); ok || num != 0 || den != 0 {
				t.Error(list, line, num, den, ok)
			}
		}
	}
}

func TestP11SailedLines(t *testing.T) {
	for _, c := range []struct {
		list []impl.Pass
		want []int
	}{
		{passesOf(1, 0, 10, 100, 10, 0, 1, 10, 20, 100, 5, 180, 2, 50, 60, 10, 2, 90), []int{1}}, {nil, nil}, {[]impl.Pass{}, nil},
		// Exactly a tenth of bad Pings, and one more.
		{pingsOn(4, 10, 1), []int{4}}, {pingsOn(4, 10, 2), nil}, {pingsOn(4, 9, 1), nil}, {pingsOn(4, 11, 1), []int{4}}, {pingsOn(4, 19, 1), []int{4}}, {pingsOn(4, 19, 2), nil}, {pingsOn(4, 20, 2), []int{4}}, {pingsOn(4, 100000, 10000), []int{4}}, {pingsOn(4, 100000, 10001), nil}, {pingsOn(4, 99999, 9999), []int{4}}, {pingsOn(4, 99999, 10000), nil},
		// No Pings, no good ones, no bad ones.
		{pingsOn(4, 0, 0), nil}, {pingsOn(4, 0, 0, 4, 0, 0), nil}, {pingsOn(4, 1, 1), nil}, {pingsOn(4, 1, 0), []int{4}}, {pingsOn(4, 0, 0, 4, 1, 0), []int{4}}, {pingsOn(4, 0, 0, 5, 1, 0), []int{5}}, {pingsOn(4, 100000, 100000), nil}, {pingsOn(4, 100000, 0), []int{4}},
		// Together at least 90 percent good, though no Pass or only one of them is, or though one is not.
		{pingsOn(4, 50, 9, 4, 50, 1), []int{4}}, {pingsOn(4, 50, 9, 4, 50, 2), nil}, {pingsOn(4, 5, 5, 4, 45, 0), []int{4}}, {pingsOn(4, 5, 5, 4, 44, 0), nil}, {pingsOn(4, 45, 0, 4, 5, 5), []int{4}}, {pingsOn(4, 45, 0, 6, 5, 5), []int{4}}, {pingsOn(4, 10, 1, 4, 1, 1), nil}, {pingsOn(4, 50, 1, 6, 50, 9, 4, 50, 9), []int{4}}, {pingsOn(4, 50, 1, 6, 50, 9, 4, 0, 0, 6, 40, 0), []int{4, 6}},
		// In ascending order and once each.
		{pingsOn(999, 10, 1, 5, 10, 1, 999, 10, 0, 1, 10, 1, 5, 10, 1, 400, 10, 2), []int{1, 5, 999}}, {pingsOn(3, 1, 0, 2, 1, 0, 1, 1, 0), []int{1, 2, 3}}, {pingsOn(2, 1, 0, 10, 1, 0, 2, 1, 0, 10, 1, 0), []int{2, 10}}, {pingsOn(10, 1, 0, 2, 1, 0, 10, 1, 0, 2, 1, 0), []int{2, 10}}, {pingsOn(7, 1, 0, 7, 1, 0, 7, 1, 0), []int{7}},
		{pingsOn(12, 1, 0, 11, 1, 0, 10, 1, 0, 9, 1, 0, 8, 1, 0, 7, 1, 0, 6, 1, 0, 5, 1, 0, 4, 1, 0, 3, 1, 0, 2, 1, 0, 1, 1, 0), []int{1, 2, 3, 4, 5, 6, 7, 8, 9, 10, 11, 12}},
	} {
		if lines, ok := impl.SailedLines(c.list); !ok || !slices.Equal(lines, c.want) {
			t.Error(c, lines, ok)
		}
	}
	for _, list := range passLists() {
		if lines, ok := impl.SailedLines(list); !ok || !slices.Equal(lines, plainSailedLines(list)) {
			t.Error(list, lines, ok)
		}
	}
	for _, list := range wrongPassLists() {
		if lines, ok := impl.SailedLines(list); ok || len(lines) != 0 {
			t.Error(list, lines, ok)
		}
	}
}

func TestP11EveryNumberOfBadPings(t *testing.T) {
	for pings := range 45 {
		for bad := range pings + 1 {
			sailed := pings > 0 && 10*bad <= pings
			for _, list := range [][]impl.Pass{pingsOn(4, pings, bad), pingsOn(4, pings-pings/3, bad-bad/3, 4, pings/3, bad/3)} {
				if !impl.ArePasses(list) {
					continue
				}
				lines, ok := impl.SailedLines(list)
				again, isDone := impl.LinesToRepeat(list, []int{4})
				if !ok || !isDone || (len(lines) == 1) != sailed || (len(again) == 0) != sailed {
					t.Error(list, lines, again)
				}
			}
		}
	}
}

func TestP11LinesToRepeat(t *testing.T) {
	l := passesOf(1, 0, 10, 100, 10, 0, 1, 10, 20, 100, 5, 180, 2, 50, 60, 10, 2, 90)
	for _, c := range []struct {
		list          []impl.Pass
		planned, want []int
	}{
		{l, []int{1, 2, 3}, []int{2, 3}}, {l, []int{1}, nil}, {l, []int{2}, []int{2}}, {l, []int{3}, []int{3}}, {l, nil, nil}, {l, []int{}, nil}, {l, []int{3, 999}, []int{3, 999}}, {l, []int{1, 999}, []int{999}}, {nil, nil, nil}, {nil, []int{1}, []int{1}}, {nil, []int{999}, []int{999}}, {nil, []int{1, 999}, []int{1, 999}}, {[]impl.Pass{}, []int{5, 6, 7}, []int{5, 6, 7}},
		{pingsOn(4, 0, 0), []int{4}, []int{4}}, {pingsOn(4, 10, 1), []int{4}, nil}, {pingsOn(4, 10, 2), []int{4}, []int{4}}, {pingsOn(4, 50, 9, 4, 50, 1), []int{3, 4, 5}, []int{3, 5}}, {pingsOn(4, 50, 9, 4, 50, 2), []int{3, 4, 5}, []int{3, 4, 5}}, {pingsOn(9, 1, 0, 7, 1, 0, 5, 1, 0), []int{5, 6, 7, 8, 9}, []int{6, 8}}, {pingsOn(9, 1, 0, 7, 1, 0, 5, 1, 0), []int{5, 7, 9}, nil},
	} {
		if lines, ok := impl.LinesToRepeat(c.list, c.planned); !ok || !slices.Equal(lines, c.want) {
			t.Error(c, lines, ok)
		}
	}
}

// upTo are the Lines from one number to another.
func upTo(from, to int) []int {
	lines := []int{}
	for line := from; line <= to; line++ {
		lines = append(lines, line)
	}
	return lines
}

// goodPlans are planned Lines, from none to the most.
func goodPlans() [][]int {
	plans := [][]int{nil, {}, {1}, {4}, {5}, {999}, {1, 2}, {1, 999}, {998, 999}, {3, 4, 5, 8, 500, 999}, {1, 2, 4, 6, 8, 9}, upTo(1, 30), upTo(970, 999), upTo(486, 515), upTo(3, 31), append(upTo(1, 29), 999), append([]int{1}, upTo(971, 999)...)}
	for count := range 30 {
		plan := []int{}
		for i := range count {
			plan = append(plan, 1+i*(1+count%5))
		}
		plans = append(plans, plan)
	}
	return plans
}

// wrongPlans are too many, not ascending, or have one that is no Line.
func wrongPlans() [][]int {
	plans := [][]int{upTo(1, 31), upTo(969, 999), upTo(1, 999), make([]int, 31), make([]int, 1), {1, 1}, {999, 999}, {1, 2, 2}, {1, 1, 2}, {2, 1}, {1, 3, 2}, {2, 1, 3}, {999, 1}, {4, 5, 6, 4}, append(upTo(1, 29), 29), append(upTo(2, 30), 1), append(upTo(1, 29), 1000), append([]int{0}, upTo(1, 29)...), {998, 999, 1000}, {0, 1, 2}, {-1, 1}}
	for _, wrong := range wrongPassLines {
		plans = append(plans, []int{wrong}, []int{wrong, 500}, []int{500, wrong}, []int{1, wrong, 999}, []int{wrong, wrong})
	}
	return plans
}

func TestP11PlannedLinesAreSailedOrToRepeat(t *testing.T) {
	for _, list := range passLists() {
		sailed, _ := impl.SailedLines(list)
		for _, plan := range goodPlans() {
			again, ok := impl.LinesToRepeat(list, plan)
			rest := again
			for _, line := range plan {
				isSailed, isToRepeat := slices.Contains(sailed, line), len(rest) > 0 && rest[0] == line
				if isSailed == isToRepeat || isSailed != plainSailed(list, line) {
					t.Error(list, plan, line, isSailed, isToRepeat)
				}
				if isToRepeat {
					rest = rest[1:]
				}
			}
			if !ok || len(rest) > 0 {
				t.Error(list, plan, again, ok)
			}
		}
		for _, plan := range wrongPlans() {
			if lines, ok := impl.LinesToRepeat(list, plan); ok || len(lines) != 0 {
				t.Error(list, plan, lines, ok)
			}
		}
	}
	for _, list := range wrongPassLists() {
		for _, plan := range [][]int{nil, {}, {1}, {4, 6, 8}, upTo(1, 30), upTo(1, 31), {2, 1}} {
			if lines, ok := impl.LinesToRepeat(list, plan); ok || len(lines) != 0 {
				t.Error(list, plan, lines, ok)
			}
		}
	}
}

func TestP11OppositeOn(t *testing.T) {
	none := [][]int{}
	pair := [][]int{{0, 1}}
	for _, c := range []struct {
		list []impl.Pass
		line int
		want [][]int
	}{
		{passesOf(1, 0, 10, 100, 10, 0, 1, 10, 20, 100, 5, 180, 2, 50, 60, 10, 2, 90), 1, pair}, {passesOf(1, 0, 10, 100, 10, 0, 1, 10, 20, 100, 5, 180, 2, 50, 60, 10, 2, 90), 2, none}, {passesOf(1, 0, 10, 100, 10, 0, 1, 10, 20, 100, 5, 180, 2, 50, 60, 10, 2, 90), 3, none}, {nil, 1, none}, {nil, 999, none}, {coursesOn(0), 4, none}, {coursesOn(180), 4, none},
		// One after the other, and to the other side of north.
		{coursesOn(0, 169), 4, none}, {coursesOn(0, 170), 4, pair}, {coursesOn(0, 180), 4, pair}, {coursesOn(0, 190), 4, pair}, {coursesOn(0, 191), 4, none}, {coursesOn(169, 0), 4, none}, {coursesOn(170, 0), 4, pair}, {coursesOn(190, 0), 4, pair}, {coursesOn(191, 0), 4, none}, {coursesOn(350, 159), 4, none}, {coursesOn(350, 160), 4, pair}, {coursesOn(350, 170), 4, pair}, {coursesOn(350, 180), 4, pair}, {coursesOn(350, 181), 4, none}, {coursesOn(10, 199), 4, pair}, {coursesOn(10, 201), 4, none}, {coursesOn(10, 179), 4, none}, {coursesOn(200, 9), 4, none}, {coursesOn(200, 10), 4, pair}, {coursesOn(200, 20), 4, pair}, {coursesOn(200, 30), 4, pair}, {coursesOn(200, 31), 4, none},
		{coursesOn(359, 168), 4, none}, {coursesOn(359, 169), 4, pair}, {coursesOn(359, 189), 4, pair}, {coursesOn(359, 190), 4, none}, {coursesOn(0, 0), 4, none}, {coursesOn(0, 359), 4, none}, {coursesOn(359, 0), 4, none}, {coursesOn(90, 270), 4, pair}, {coursesOn(270, 90), 4, pair}, {coursesOn(90, 91), 4, none},
		// Of several Passes, in lexicographic order.
		{coursesOn(0, 180, 0, 180), 4, [][]int{{0, 1}, {0, 3}, {1, 2}, {2, 3}}}, {coursesOn(0, 0, 180), 4, [][]int{{0, 2}, {1, 2}}}, {coursesOn(0, 180, 180), 4, [][]int{{0, 1}, {0, 2}}}, {coursesOn(0, 60, 120, 180, 240, 300), 4, [][]int{{0, 3}, {1, 4}, {2, 5}}}, {coursesOn(0, 5, 10, 180), 4, [][]int{{0, 3}, {1, 3}, {2, 3}}}, {coursesOn(0, 120, 240), 4, none}, {coursesOn(80, 80, 260, 260), 4, [][]int{{0, 2}, {0, 3}, {1, 2}, {1, 3}}},
		// Of one Line, whichever of both is of another one.
		{passesOf(4, 0, 1, 0, 0, 0, 5, 1, 2, 0, 0, 180, 4, 2, 3, 0, 0, 180), 4, [][]int{{0, 2}}}, {passesOf(4, 0, 1, 0, 0, 0, 5, 1, 2, 0, 0, 180, 4, 2, 3, 0, 0, 180), 5, none}, {passesOf(5, 0, 1, 0, 0, 0, 4, 1, 2, 0, 0, 180), 4, none}, {passesOf(4, 0, 1, 0, 0, 0, 5, 1, 2, 0, 0, 180), 4, none}, {passesOf(5, 0, 1, 0, 0, 0, 5, 1, 2, 0, 0, 180), 4, none}, {passesOf(999, 0, 1, 0, 0, 0, 5, 1, 2, 0, 0, 180, 999, 5, 9, 0, 0, 185, 5, 9, 10, 0, 0, 355), 999, [][]int{{0, 2}}}, {passesOf(999, 0, 1, 0, 0, 0, 5, 1, 2, 0, 0, 180, 999, 5, 9, 0, 0, 185, 5, 9, 10, 0, 0, 355), 5, [][]int{{1, 3}}},
	} {
		if pairs, ok := impl.OppositeOn(c.list, c.line); !ok || !slices.EqualFunc(pairs, c.want, slices.Equal[[]int]) {
			t.Error(c, pairs, ok)
		}
	}
}

func TestP11EveryTwoCourses(t *testing.T) {
	list := coursesOn(0, 0)
	for a := range 360 {
		for b := range 360 {
			list[0].Course, list[1].Course = a, b
			pairs, ok := impl.OppositeOn(list, 4)
			if !ok || (len(pairs) == 1) != plainOpposite(a, b) || len(pairs) > 1 || len(pairs) == 1 && !slices.Equal(pairs[0], []int{0, 1}) {
				t.Fatal(a, b, pairs, ok)
			}
		}
	}
}

// plainPairs returns the indices of the Passes of a Line with opposite courses.
func plainPairs(list []impl.Pass, line int) [][]int {
	pairs := [][]int{}
	for i := range list {
		for k := i + 1; k < len(list); k++ {
			if list[i].Line == line && list[k].Line == line && plainOpposite(list[i].Course, list[k].Course) {
				pairs = append(pairs, []int{i, k})
			}
		}
	}
	return pairs
}

func TestP11EveryOppositePair(t *testing.T) {
	count := 0
	for _, list := range passLists() {
		for _, line := range loggedLines(list) {
			pairs, ok := impl.OppositeOn(list, line)
			count += len(pairs)
			if !ok || !slices.EqualFunc(pairs, plainPairs(list, line), slices.Equal[[]int]) {
				t.Error(list, line, pairs, ok)
			}
		}
		for _, line := range wrongPassLines {
			if pairs, ok := impl.OppositeOn(list, line); ok || len(pairs) != 0 {
				t.Error(list, line, pairs, ok)
			}
		}
	}
	if count < 20 {
		t.Error("few opposite pairs", count)
	}
	for _, list := range wrongPassLists() {
		for _, line := range loggedLines(list) {
			if pairs, ok := impl.OppositeOn(list, line); ok || len(pairs) != 0 {
				t.Error(list, line, pairs, ok)
			}
		}
	}
}

func TestP11LongestBreak(t *testing.T) {
	for _, c := range []struct {
		list       []impl.Pass
		end, begin int
	}{
		{passesOf(1, 0, 10, 100, 10, 0, 1, 10, 20, 100, 5, 180, 2, 50, 60, 10, 2, 90), 20, 50}, {spansOn(0, 10, 20, 30), 10, 20}, {spansOn(0, 1, 9999, 10000), 1, 9999}, {spansOn(3, 7, 8, 9), 7, 8}, {spansOn(5, 9, 20, 21, 22, 23), 9, 20}, {spansOn(5, 9, 10, 21, 42, 43), 21, 42},
		// No minutes at all, or but of one.
		{spansOn(0, 10, 10, 20), 10, 10}, {spansOn(9998, 9999, 9999, 10000), 9999, 9999}, {spansOn(0, 1, 1, 2, 2, 3), 1, 1}, {spansOn(0, 1, 1, 2, 3, 4), 2, 3}, {spansOn(0, 1, 2, 3, 3, 4), 1, 2},
		// Several of the same length, in front, behind and in the middle.
		{spansOn(0, 1, 3, 4, 6, 7), 1, 3}, {spansOn(0, 1, 2, 4, 6, 7, 9, 10), 4, 6}, {spansOn(0, 1, 5, 6, 7, 8, 12, 13), 1, 5}, {spansOn(0, 1, 1, 2, 5, 6, 9, 10, 10, 11), 2, 5}, {spansOn(0, 1, 2, 3, 5, 6, 9, 10), 6, 9}, {spansOn(0, 1, 4, 5, 7, 8, 9, 10), 1, 4},
		// Neither with long Passes nor from Begin to Begin.
		{spansOn(0, 100, 102, 103, 106, 107), 103, 106}, {spansOn(0, 1, 4, 5, 7, 5000, 5001, 10000), 1, 4},
	} {
		if end, begin, ok := impl.LongestBreak(c.list); !ok || end != c.end || begin != c.begin {
			t.Error(c, end, begin, ok)
		}
	}
	for _, list := range passLists() {
		end, begin, ok := impl.LongestBreak(list)
		if ok != (len(list) >= 2) || !ok && (end != 0 || begin != 0) {
			t.Error(list, end, begin, ok)
		}
		if !ok {
			continue
		}
		first := slices.IndexFunc(list, func(p impl.Pass) bool { return p.End == end })
		if first < 0 || first+1 >= len(list) || list[first+1].Begin != begin {
			t.Error(list, end, begin)
			continue
		}
		for i := range len(list) - 1 {
			minutes := list[i+1].Begin - list[i].End
			if minutes > begin-end || i < first && minutes == begin-end {
				t.Error(list, end, begin, i)
			}
		}
	}
	for _, list := range wrongPassLists() {
		if end, begin, ok := impl.LongestBreak(list); ok || end != 0 || begin != 0 {
			t.Error(list, end, begin, ok)
		}
	}
}

func TestP11PutPass(t *testing.T) {
	l := spansOn(10, 20, 30, 40)
	for _, c := range []struct {
		list       []impl.Pass
		begin, end int
		place      int
	}{
		// Ahead of all, between two, behind all, and where it just fits.
		{l, 0, 5, 0}, {l, 0, 10, 0}, {l, 9, 10, 0}, {l, 22, 25, 1}, {l, 20, 30, 1}, {l, 20, 21, 1}, {l, 29, 30, 1}, {l, 50, 60, 2}, {l, 40, 41, 2}, {l, 40, 10000, 2}, {l, 9999, 10000, 2}, {nil, 0, 10000, 0}, {nil, 5, 6, 0}, {[]impl.Pass{}, 9999, 10000, 0},
		// By a minute over either one, over all of one, and in one.
		{l, 0, 11, -1}, {l, 19, 25, -1}, {l, 22, 31, -1}, {l, 39, 50, -1}, {l, 19, 30, -1}, {l, 20, 31, -1}, {l, 19, 31, -1}, {l, 10, 20, -1}, {l, 30, 40, -1}, {l, 10, 11, -1}, {l, 19, 20, -1}, {l, 30, 31, -1}, {l, 9, 21, -1}, {l, 0, 10000, -1}, {l, 12, 15, -1}, {l, 32, 50, -1}, {l, 5, 35, -1}, {l, 10, 25, -1},
		// Without minutes or beyond the Times, though there is room.
		{l, 20, 20, -1}, {l, 25, 25, -1}, {l, 25, 24, -1}, {l, 40, 10001, -1}, {l, -1, 10, -1}, {nil, 5, 5, -1}, {nil, 0, 10001, -1}, {nil, -1, 5, -1}, {nil, 10000, 10000, -1}, {l, math.MinInt, 5, -1}, {l, 50, math.MaxInt, -1},
	} {
		p := legWith(func(p *impl.Pass) { p.Begin, p.End = c.begin, c.end })
		put, ok := impl.PutPass(c.list, p)
		if c.place < 0 {
			if ok || len(put) != 0 {
				t.Error(c, put, ok)
			}
		} else if !ok || !slices.Equal(put, slices.Insert(slices.Clone(c.list), c.place, p)) {
			t.Error(c, put, ok)
		}
	}
}

func TestP11EveryPassIsPutOrNot(t *testing.T) {
	puts := 0
	for _, list := range passLists() {
		times := timesAround(list)
		for _, begin := range times {
			for _, end := range times {
				p := legWith(func(p *impl.Pass) { p.Begin, p.End = begin, end })
				isFree := begin < end && len(list) < impl.MaxPasses
				for _, q := range list {
					isFree = isFree && (p.End <= q.Begin || q.End <= p.Begin)
				}
				put, ok := impl.PutPass(list, p)
				if ok != isFree || !ok && len(put) != 0 || ok && (!slices.Equal(put, sortedByBegin(list, p)) || !impl.ArePasses(put)) {
					t.Error(list, p, put, ok)
				}
				if ok {
					puts++
				}
			}
		}
		for _, wrong := range wrongPasses() {
			if put, ok := impl.PutPass(list, wrong); ok || len(put) != 0 {
				t.Error(list, wrong, put, ok)
			}
		}
	}
	if puts < 500 {
		t.Error("few were put", puts)
	}
	for _, list := range wrongPassLists() {
		for _, p := range append(goodPasses(), legWith(func(p *impl.Pass) { p.Begin, p.End = 9998, 9999 })) {
			if put, ok := impl.PutPass(list, p); ok || len(put) != 0 {
				t.Error(list, p, put, ok)
			}
		}
	}
}

func TestP11PassesArePutUpToTheMost(t *testing.T) {
	whole := manyPasses(impl.MaxPasses)
	for turn := range impl.MaxPasses {
		// In many orders: each begins elsewhere and goes on by 5 of 12.
		list := []impl.Pass{}
		for i := range impl.MaxPasses {
			put, ok := impl.PutPass(list, whole[(turn+5*i)%impl.MaxPasses])
			if !ok || len(put) != i+1 {
				t.Fatal(turn, i, put, ok)
			}
			list = put
		}
		if !slices.Equal(list, whole) {
			t.Error(turn, list)
		}
	}
	for _, p := range []impl.Pass{{Line: 1, End: 3}, {Line: 1, Begin: 9000, End: 9001}} {
		if put, ok := impl.PutPass(whole, p); ok || len(put) != 0 {
			t.Error(p, put, ok)
		}
		if put, ok := impl.PutPass(whole[:11], p); !ok || len(put) != 12 {
			t.Error(p, put, ok)
		}
	}
}

func TestP29PassFunctionsLeaveTheirArguments(t *testing.T) {
	// What lies behind the length of the list is neither read nor written.
	whole := append(passesOf(9, 10, 20, 10, 1, 0, 4, 20, 25, 8, 2, 90, 9, 40, 50, 20, 2, 180), impl.Pass{}, impl.Pass{}, leg())
	plan := append([]int{3, 4, 9}, 9, 0, 5)
	before, planBefore := slices.Clone(whole), slices.Clone(plan)
	for size := range len(whole) + 1 {
		list := whole[:size]
		valid, kept := size <= 3, before[:min(size, 3)]
		if impl.ArePasses(list) != valid {
			t.Error("ArePasses", size)
		}
		if n, ok := impl.MinutesOn(list, 9); ok != valid || ok && n != []int{0, 10, 10, 20}[size] {
			t.Error("MinutesOn", size, n, ok)
		}
		if num, den, ok := impl.BusyShare(list, 0, 50); ok != valid || ok && (num != []int{0, 1, 3, 1}[size] || den != []int{1, 5, 10, 2}[size]) {
			t.Error("BusyShare", size, num, den, ok)
		}
		if num, den, ok := impl.GoodShare(list, 9); ok != (valid && size > 0) || ok && (num != 9 || den != 10) {
			t.Error("GoodShare", size, num, den, ok)
		}
		if lines, ok := impl.SailedLines(list); ok != valid || ok && !slices.Equal(lines, plainSailedLines(kept)) || !ok && len(lines) != 0 {
			t.Error("SailedLines", size, lines, ok)
		}
		for length := range len(plan) + 1 {
			lines, ok := impl.LinesToRepeat(list, plan[:length])
			want := [][]int{{}, {3}, {3, 4}, {3, 4}, {}, {}, {}}[length]
			if length == 3 && size == 0 {
				want = []int{3, 4, 9}
			}
			if ok != (valid && length <= 3) || ok && !slices.Equal(lines, want) || !ok && len(lines) != 0 {
				t.Error("LinesToRepeat", size, length, lines, ok)
			}
		}
		if pairs, ok := impl.OppositeOn(list, 9); ok != valid || ok && !slices.EqualFunc(pairs, plainPairs(kept, 9), slices.Equal[[]int]) || !ok && len(pairs) != 0 {
			t.Error("OppositeOn", size, pairs, ok)
		}
		if end, begin, ok := impl.LongestBreak(list); ok != (size == 2 || size == 3) || ok && (end != []int{0, 0, 20, 25}[size] || begin != []int{0, 0, 20, 40}[size]) {
			t.Error("LongestBreak", size, end, begin, ok)
		}
		for _, begin := range []int{0, 27, 35, 60} {
			p := impl.Pass{Line: 2, Begin: begin, End: begin + 5}
			if put, ok := impl.PutPass(list, p); ok != valid || ok && !slices.Equal(put, sortedByBegin(kept, p)) || !ok && len(put) != 0 {
				t.Error("PutPass", size, begin, put, ok)
			}
		}
		if put, ok := impl.PutPass(list, impl.Pass{Line: 2, Begin: 12, End: 15}); ok != (size == 0) || !ok && len(put) != 0 {
			t.Error("PutPass", size, put, ok)
		}
	}
	if !slices.Equal(whole, before) || !slices.Equal(plan, planBefore) {
		t.Error("the Passes and the planned Lines are now", whole, plan)
	}
}

func TestP29PassResultsShareNothing(t *testing.T) {
	for _, count := range []int{0, 1, 4, 9, 11} {
		// The list and the plan have room behind their length, in which no result may lie.
		room, plan := make([]impl.Pass, count, 14), make([]int, 3, 6)
		copy(room, manyPasses(count))
		copy(plan, []int{2, 6, 7})
		for _, p := range []impl.Pass{{Line: 2, End: 3}, {Line: 2, Begin: 9000, End: 9009}} {
			sailed, _ := impl.SailedLines(room)
			again, _ := impl.LinesToRepeat(room, plan)
			pairs, _ := impl.OppositeOn(room, 3)
			put, _ := impl.PutPass(room, p)
			sailed2, _ := impl.SailedLines(room)
			again2, _ := impl.LinesToRepeat(room, plan)
			pairs2, _ := impl.OppositeOn(room, 3)
			put2, _ := impl.PutPass(room, p)
			if len(put) != count+1 || !slices.Equal(again, []int{2, 6, 7}) || count >= 9 && len(pairs) < 2 {
				t.Error("other results", again, pairs, put)
			}
			clear(sailed)
			clear(again)
			clear(put)
			for i, pair := range pairs {
				// No pair has room in which another one lies.
				_ = append(pair, -9, -9)
				if i+1 < len(pairs) && !slices.Equal(pairs[i+1], plainPairs(room, 3)[i+1]) {
					t.Error("the pairs are now", pairs)
				}
				clear(pair)
			}
			_, _, _, _ = append(sailed, -8), append(again, -8), append(pairs, []int{-8}), append(put, impl.Pass{Line: -8})
			if !slices.Equal(sailed2, plainSailedLines(room)) || !slices.Equal(again2, []int{2, 6, 7}) || !slices.EqualFunc(pairs2, plainPairs(room, 3), slices.Equal[[]int]) || !slices.Equal(put2, sortedByBegin(room, p)) {
				t.Error("the other results are now", sailed2, again2, pairs2, put2)
			}
		}
		if !slices.Equal(room[:14], append(manyPasses(count), make([]impl.Pass, 14-count)...)) || !slices.Equal(plan[:6], []int{2, 6, 7, 0, 0, 0}) {
			t.Error("the Passes and the planned Lines are now", room[:14], plan[:6])
		}
	}
}

func TestP29PassFunctionsReturnForAllArguments(t *testing.T) {
	numbers := []int{math.MinInt, math.MinInt + 1, -1, 0, 1, 5, 169, 359, 360, 999, 1000, 9999, 10000, 10001, 100000, 100001, 1 << 62, -1 << 62, math.MaxInt}
	for _, a := range numbers {
		for _, b := range numbers {
			checkPasses(t, nil, a, b)
			checkPasses(t, manyPasses(12), a, b)
			checkPasses(t, manyPasses(13), a, b)
			checkPasses(t, passesOf(a, b, a, b, a, b), a, b)
			checkPasses(t, passesOf(b, a, b, a, b, a, a, b, a, b, a, b), b, a)
			checkPasses(t, spansOn(a, b, b, a), a, b)
			checkPasses(t, spansOn(0, a, b, 10000), a, b)
			checkPasses(t, pingsOn(a, b, a, 5, a, b, 1, b, 0), b, a)
			checkPasses(t, coursesOn(a, b, 0, b), 4, a)
		}
	}
	long, plan := make([]impl.Pass, 1000000), make([]int, 1000000)
	for i := range long {
		long[i] = impl.Pass{Line: 1 + i%999, Begin: i, End: i + 1, Pings: 1}
		plan[i] = i + 1
	}
	checkPasses(t, long, 0, 10000)
	if lines, ok := impl.LinesToRepeat(nil, plan); ok || len(lines) != 0 {
		t.Error("a million planned Lines", len(lines), ok)
	}
}

// checkPasses tells whether the functions of a list return something only if they succeed.
func checkPasses(t *testing.T, list []impl.Pass, a, b int) {
	t.Helper()
	valid, isTimes := impl.ArePasses(list), 0 <= a && a < b && b <= 10000
	isLine := valid && 1 <= a && a <= 999
	if n, ok := impl.MinutesOn(list, a); ok != isLine || n < 0 || n > 10000 || !ok && n != 0 {
		t.Error("minutes", a, n, ok)
	}
	if num, den, ok := impl.BusyShare(list, a, b); ok != (valid && isTimes) || ok && (num < 0 || num > den || den < 1) || !ok && (num != 0 || den != 0) {
		t.Error("busy", a, b, num, den, ok)
	}
	if num, den, ok := impl.GoodShare(list, a); ok && (!isLine || num < 0 || num > den || den < 1) || !ok && (num != 0 || den != 0) {
		t.Error("good", a, num, den, ok)
	}
	if lines, ok := impl.SailedLines(list); ok != valid || len(lines) > len(list) || !ok && len(lines) != 0 {
		t.Error("sailed", lines, ok)
	}
	if lines, ok := impl.LinesToRepeat(list, []int{a, b}); ok != (valid && 1 <= a && a < b && b <= 999) || len(lines) > 2 || !ok && len(lines) != 0 {
		t.Error("to repeat", a, b, lines, ok)
	}
	if pairs, ok := impl.OppositeOn(list, a); ok != isLine || !ok && len(pairs) != 0 {
		t.Error("opposite", a, pairs, ok)
	}
	if end, begin, ok := impl.LongestBreak(list); ok != (valid && len(list) > 1) || end > begin || !ok && (end != 0 || begin != 0) {
		t.Error("break", end, begin, ok)
	}
	for _, p := range []impl.Pass{{Line: 1, Begin: a, End: b}, {Line: a, Begin: 9000, End: 9001, Pings: b, Bad: a, Course: b}, {Line: 1, Begin: 1, End: 2}} {
		put, ok := impl.PutPass(list, p)
		if ok && (!valid || !impl.IsPass(p) || len(put) != len(list)+1 || !impl.ArePasses(put)) || !ok && len(put) != 0 {
			t.Error("put", a, b, put, ok)
		}
		if impl.IsPass(p) && !ok && len(list) == 0 {
			t.Error("not put", p)
		}
	}
}
