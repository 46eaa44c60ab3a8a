package tests

import (
	"math"
	"slices"
	"testing"

	"loop.example/g01031/impl"
)

// linesOf makes Lines with the Ids 3, 6, 9 and so on of four numbers each: Y, From, To and Swath.
func linesOf(numbers ...int) []impl.SurveyLine {
	list := []impl.SurveyLine{}
	for i := 0; i+3 < len(numbers); i += 4 {
		list = append(list, impl.SurveyLine{Id: 3 + 3*i/4, Y: numbers[i], From: numbers[i+1], To: numbers[i+2], Swath: numbers[i+3]})
	}
	return list
}

// manyLines have the Ids 3, 6, 9 and so on, and no two have the same Y, From, To or Swath.
func manyLines(count int) []impl.SurveyLine {
	list := []impl.SurveyLine{}
	for i := range count {
		y := 900 - 331*i + 37*i*i
		list = append(list, impl.SurveyLine{Id: 3 + 3*i, Y: min(max(y, i), 1000-i), From: 23 * i, To: 1000 - 41*i, Swath: 60 + 17*i})
	}
	return list
}

// reef is a valid SurveyLine of which each number is another one.
func reef() impl.SurveyLine { return impl.SurveyLine{Id: 6, Y: 125, From: 50, To: 170, Swath: 75} }

// reefWith changes a valid SurveyLine.
func reefWith(change func(*impl.SurveyLine)) impl.SurveyLine {
	l := reef()
	change(&l)
	return l
}

// goodLines are at the limits or within them.
func goodLines() []impl.SurveyLine {
	return []impl.SurveyLine{
		reef(), {Id: 1, To: 1, Swath: 1}, {Id: 99, Y: 1000, From: 999, To: 1000, Swath: 300}, {Id: 50, To: 1000, Swath: 300}, {Id: 2, Y: 1000, To: 1000, Swath: 1},
		{Id: 98, Y: 999, From: 1, To: 999, Swath: 299}, {Id: 7, Y: 500, From: 499, To: 500, Swath: 25}, {Id: 7, Y: 500, From: 500, To: 501, Swath: 26}, {Id: 10, Y: 1, From: 998, To: 999, Swath: 2},
	}
}

// wrongLines are beyond one limit each, by one or by far.
func wrongLines() []impl.SurveyLine {
	list := []impl.SurveyLine{{}, {Y: 5, To: 5, Swath: 1}, {Id: 6, Y: 5, Swath: 1}}
	for _, n := range []int{math.MinInt, -6, -1, 0, 100, 101, math.MaxInt} {
		list = append(list, reefWith(func(l *impl.SurveyLine) { l.Id = n }))
	}
	for _, n := range []int{math.MinInt, -125, -1, 1001, math.MaxInt} {
		list = append(list, reefWith(func(l *impl.SurveyLine) { l.Y = n }))
	}
	for _, n := range []int{math.MinInt, -50, -1, 170, 171, 1000, 1001, math.MaxInt} {
		list = append(list, reefWith(func(l *impl.SurveyLine) { l.From = n }))
	}
	for _, n := range []int{math.MinInt, -170, 0, 49, 50, 1001, math.MaxInt} {
		list = append(list, reefWith(func(l *impl.SurveyLine) { l.To = n }))
	}
	for _, n := range wrongSwaths {
		list = append(list, reefWith(func(l *impl.SurveyLine) { l.Swath = n }))
	}
	return append(list, reefWith(func(l *impl.SurveyLine) { l.From, l.To = 1000, 1001 }), reefWith(func(l *impl.SurveyLine) { l.From, l.To = -1, 0 }),
		reefWith(func(l *impl.SurveyLine) { l.From, l.To = math.MinInt, math.MaxInt }), reefWith(func(l *impl.SurveyLine) { l.From, l.To = l.To, l.From }))
}

// wrongSwaths are beyond a limit, by one or by far; twice the last ones is no number any more.
var wrongSwaths = []int{-300, -75, -1, 0, 301, 1000, math.MinInt, math.MaxInt, 1 << 62, -1 << 62, math.MinInt + 50}

// lineLists are valid, from none to the most.
func lineLists() [][]impl.SurveyLine {
	lists := [][]impl.SurveyLine{
		nil, {}, linesOf(50, 0, 200, 50, 125, 50, 150, 75), {{Id: 1, Y: 5, To: 5, Swath: 1}, {Id: 2, Y: 5, To: 5, Swath: 1}, {Id: 99, Y: 5, To: 5, Swath: 1}},
		// All along one Y, from the north to the south, and at all the edges of the grid.
		linesOf(300, 0, 500, 100, 300, 400, 1000, 20, 300, 0, 1000, 300, 300, 250, 251, 1), linesOf(800, 10, 300, 60, 600, 0, 500, 100, 400, 40, 1000, 200, 20, 200, 900, 30),
		linesOf(0, 0, 1000, 300, 1000, 0, 1000, 300, 500, 0, 50, 300, 500, 950, 1000, 300), linesOf(1000, 0, 1000, 1, 1000, 999, 1000, 300, 0, 0, 1, 300, 0, 0, 1000, 1),
		// The whole grid, once and as often as can be.
		linesOf(200, 0, 1000, 200, 600, 0, 1000, 200, 900, 0, 1000, 100),
		linesOf(300, 0, 1000, 300, 800, 0, 1000, 300, 300, 0, 1000, 300, 800, 0, 1000, 300, 200, 0, 1000, 300, 700, 0, 1000, 300, 500, 0, 1000, 300, 500, 0, 1000, 300),
		linesOf(75, 0, 1000, 25, 75, 0, 100, 25, 75, 50, 150, 25, 75, 50, 100, 25, 75, 49, 101, 26, 75, 50, 100, 24, 75, 51, 100, 25, 75, 50, 99, 25),
	}
	for _, l := range goodLines() {
		lists = append(lists, []impl.SurveyLine{l})
	}
	for count := 1; count <= impl.MaxLines; count++ {
		lists = append(lists, manyLines(count))
	}
	return lists
}

// wrongLineLists are too many, not in ascending order, or with one SurveyLine that is not valid.
func wrongLineLists() [][]impl.SurveyLine {
	lists := [][]impl.SurveyLine{append(manyLines(impl.MaxLines), reefWith(func(l *impl.SurveyLine) { l.Id = 99 })), make([]impl.SurveyLine, 3)}
	for count := 2; count <= impl.MaxLines; count++ {
		less, equal, far, turned := manyLines(count), manyLines(count), manyLines(count), manyLines(count)
		less[count-1].Id = less[count-2].Id - 1
		equal[count-1].Id = equal[count-2].Id
		far[count-1].Id = far[0].Id
		slices.Reverse(turned)
		lists = append(lists, less, equal, far, turned)
	}
	for _, wrong := range wrongLines() {
		lists = append(lists, []impl.SurveyLine{wrong})
		for i := range 3 {
			list, id := manyLines(3), wrong.Id
			// One that is wrong beside its Id must not be out of order too.
			if id == reef().Id {
				id = list[i].Id
			}
			list[i] = wrong
			list[i].Id = id
			lists = append(lists, list)
		}
	}
	return lists
}

// cellBoxes are around the edges of cells.
func cellBoxes() []impl.Box {
	places := []int{0, 1, 49, 50, 51, 99, 100, 101, 500, 525, 950, 951, 999, 1000}
	boxes := []impl.Box{{}}
	for _, west := range places {
		for _, east := range places {
			for _, side := range [][2]int{{0, 1000}, {50, 150}, {51, 150}, {50, 149}, {51, 149}, {0, 49}, {0, 50}, {950, 1000}, {951, 1000}, {100, 100}} {
				if west <= east {
					boxes = append(boxes, impl.Box{West: west, South: side[0], East: east, North: side[1]}, impl.Box{West: side[0], South: west, East: side[1], North: east})
				}
			}
		}
	}
	return boxes
}

// plainCovers tells, by the document's words, whether all meters of a cell are seen from a line.
func plainCovers(l impl.SurveyLine, row, col int) bool {
	for meter := range 51 {
		north, x := 50*row+meter-l.Y, 50*col+meter
		if max(north, -north) > l.Swath || x < l.From || x > l.To {
			return false
		}
	}
	return true
}

// plainCount returns how many lines cover a cell.
func plainCount(list []impl.SurveyLine, row, col int) int {
	count := 0
	for _, l := range list {
		if plainCovers(l, row, col) {
			count++
		}
	}
	return count
}

// plainIsIn tells whether all corners of a cell lie in a Box.
func plainIsIn(row, col int, b impl.Box) bool {
	for _, p := range spotsOf(50*col, 50*row, 50*col+50, 50*row, 50*col, 50*row+50, 50*col+50, 50*row+50) {
		if !liesIn(p, b) {
			return false
		}
	}
	return true
}

// plainUncovered returns the rows and columns of the cells in a Box that no line covers.
func plainUncovered(list []impl.SurveyLine, b impl.Box) [][2]int {
	cells := [][2]int{}
	for n := range 400 {
		if plainIsIn(n/20, n%20, b) && plainCount(list, n/20, n%20) == 0 {
			cells = append(cells, [2]int{n / 20, n % 20})
		}
	}
	return cells
}

// plainOrder returns the Ids by picking the line that is sailed next again and again.
func plainOrder(list []impl.SurveyLine) []int {
	ids := []int{}
	for y := range 1001 {
		for _, l := range list {
			if l.Y == y {
				ids = append(ids, l.Id)
			}
		}
	}
	return ids
}

// plainTurns returns the meters between the lines by following each of them.
func plainTurns(list []impl.SurveyLine) int {
	ends, ys := []int{}, []int{}
	for i, id := range plainOrder(list) {
		l := list[slices.IndexFunc(list, func(l impl.SurveyLine) bool { return l.Id == id })]
		ends, ys = append(ends, []int{l.From, l.To}[i%2], []int{l.To, l.From}[i%2]), append(ys, l.Y)
	}
	sum := 0
	for i := 1; i < len(ys); i++ {
		sum += int(math.Abs(float64(ys[i]-ys[i-1])) + math.Abs(float64(ends[2*i]-ends[2*i-1])))
	}
	return sum
}

func TestP9AreLines(t *testing.T) {
	for _, list := range lineLists() {
		if !impl.AreLines(list) {
			t.Error("not valid", list)
		}
	}
	for _, list := range wrongLineLists() {
		if impl.AreLines(list) {
			t.Error("valid", list)
		}
	}
	for count := range 20 {
		list := make([]impl.SurveyLine, count)
		for i := range list {
			list[i] = impl.SurveyLine{Id: 80 + i, To: 1, Swath: 1}
		}
		if impl.AreLines(list) != (count <= 8) {
			t.Error("count", count)
		}
	}
}

func TestP9TheLimitsOfALine(t *testing.T) {
	for n := -400; n <= 1400; n++ {
		for _, c := range []struct {
			l     impl.SurveyLine
			valid bool
		}{
			{reefWith(func(l *impl.SurveyLine) { l.Id = n }), 1 <= n && n <= 99},
			{reefWith(func(l *impl.SurveyLine) { l.Y = n }), 0 <= n && n <= 1000},
			{reefWith(func(l *impl.SurveyLine) { l.From = n }), 0 <= n && n <= 169},
			{reefWith(func(l *impl.SurveyLine) { l.To = n }), 51 <= n && n <= 1000},
			{reefWith(func(l *impl.SurveyLine) { l.Swath = n }), 1 <= n && n <= 300},
			{reefWith(func(l *impl.SurveyLine) { l.From, l.To = n, n }), false},
			{reefWith(func(l *impl.SurveyLine) { l.From, l.To = n, n+1 }), 0 <= n && n <= 999},
			{reefWith(func(l *impl.SurveyLine) { l.From, l.To = n+1, n }), false},
		} {
			if impl.AreLines([]impl.SurveyLine{c.l}) != c.valid {
				t.Error("valid should be", c.valid, c.l)
			}
		}
	}
}

func TestP9TheWrongLineOfAFullListIsFound(t *testing.T) {
	for i := range impl.MaxLines {
		for _, change := range []func(*impl.SurveyLine){
			func(l *impl.SurveyLine) { l.Y = -1 }, func(l *impl.SurveyLine) { l.Y = 1001 }, func(l *impl.SurveyLine) { l.From = -1 }, func(l *impl.SurveyLine) { l.To = 1001 },
			func(l *impl.SurveyLine) { l.To = l.From }, func(l *impl.SurveyLine) { l.To = l.From - 1 }, func(l *impl.SurveyLine) { l.Swath = 0 }, func(l *impl.SurveyLine) { l.Swath = 301 },
		} {
			list := manyLines(impl.MaxLines)
			change(&list[i])
			if impl.AreLines(list) {
				t.Error("valid", list)
			}
		}
		for by := -4; by <= 4; by++ {
			list := manyLines(impl.MaxLines)
			list[i].Id += by
			valid := by > -3 && (i == 7 || by < 3)
			if impl.AreLines(list) != valid {
				t.Error("id", i, by)
			}
		}
	}
}

func TestP9CoverageOf(t *testing.T) {
	given := linesOf(50, 0, 200, 50, 125, 50, 150, 75)
	whole := linesOf(500, 0, 1000, 300)
	for _, c := range []struct {
		list           []impl.SurveyLine
		row, col, want int
	}{
		{given, 1, 1, 2}, {given, 1, 2, 2}, {given, 1, 0, 1}, {given, 1, 3, 1}, {given, 1, 4, 0}, {given, 0, 0, 1}, {given, 0, 3, 1}, {given, 0, 4, 0}, {given, 2, 0, 0}, {given, 2, 1, 1}, {given, 2, 2, 1},
		{given, 2, 3, 0}, {given, 3, 1, 1}, {given, 3, 2, 1}, {given, 4, 1, 0}, {given, 19, 19, 0},
		// The farther edge is just Swath to the north of Y or to the south, and a meter farther.
		{linesOf(450, 0, 1000, 50), 9, 3, 1}, {linesOf(449, 0, 1000, 50), 9, 3, 0}, {linesOf(449, 0, 1000, 51), 9, 3, 1}, {linesOf(450, 0, 1000, 49), 9, 3, 0},
		{linesOf(500, 0, 1000, 50), 9, 3, 1}, {linesOf(501, 0, 1000, 50), 9, 3, 0}, {linesOf(501, 0, 1000, 51), 9, 3, 1}, {linesOf(500, 0, 1000, 49), 9, 3, 0},
		{linesOf(475, 0, 1000, 25), 9, 3, 1}, {linesOf(475, 0, 1000, 24), 9, 3, 0}, {linesOf(474, 0, 1000, 25), 9, 3, 0}, {linesOf(476, 0, 1000, 25), 9, 3, 0},
		{linesOf(300, 0, 1000, 200), 9, 3, 1}, {linesOf(299, 0, 1000, 200), 9, 3, 0}, {linesOf(650, 0, 1000, 200), 9, 3, 1}, {linesOf(651, 0, 1000, 200), 9, 3, 0}, {linesOf(600, 0, 1000, 100), 9, 3, 0},
		// An edge just at From or To, and a meter farther.
		{linesOf(475, 150, 1000, 25), 9, 3, 1}, {linesOf(475, 151, 1000, 25), 9, 3, 0}, {linesOf(475, 149, 1000, 25), 9, 3, 1}, {linesOf(475, 0, 200, 25), 9, 3, 1}, {linesOf(475, 0, 199, 25), 9, 3, 0},
		{linesOf(475, 150, 200, 25), 9, 3, 1}, {linesOf(475, 150, 199, 25), 9, 3, 0}, {linesOf(475, 151, 200, 25), 9, 3, 0}, {linesOf(475, 200, 250, 25), 9, 3, 0}, {linesOf(475, 100, 150, 25), 9, 3, 0},
		{linesOf(475, 150, 200, 25), 9, 2, 0}, {linesOf(475, 150, 200, 25), 9, 4, 0}, {linesOf(475, 150, 200, 25), 8, 3, 0}, {linesOf(475, 150, 200, 25), 10, 3, 0}, {linesOf(475, 150, 200, 25), 3, 9, 0},
		// The first and the last row and column.
		{linesOf(0, 0, 50, 50), 0, 0, 1}, {linesOf(0, 0, 50, 49), 0, 0, 0}, {linesOf(0, 0, 49, 50), 0, 0, 0}, {linesOf(0, 950, 1000, 50), 0, 19, 1}, {linesOf(0, 951, 1000, 50), 0, 19, 0},
		{linesOf(1000, 0, 50, 50), 19, 0, 1}, {linesOf(1000, 0, 50, 49), 19, 0, 0}, {linesOf(1000, 950, 1000, 50), 19, 19, 1}, {linesOf(1000, 951, 1000, 50), 19, 19, 0}, {linesOf(0, 0, 1000, 300), 19, 19, 0},
		{whole, 4, 0, 1}, {whole, 3, 0, 0}, {whole, 15, 19, 1}, {whole, 16, 19, 0},
		// By no line and by all.
		{nil, 0, 0, 0}, {[]impl.SurveyLine{}, 19, 19, 0}, {linesOf(50, 0, 200, 50, 50, 0, 200, 50, 50, 0, 200, 50), 1, 3, 3},
		{linesOf(75, 0, 1000, 25, 75, 0, 100, 25, 75, 50, 150, 25, 75, 50, 100, 25, 75, 49, 101, 26, 75, 50, 100, 24, 75, 51, 100, 25, 75, 50, 99, 25), 1, 1, 5},
		{linesOf(75, 0, 1000, 25, 75, 0, 100, 25, 75, 50, 150, 25, 75, 50, 100, 25, 75, 49, 101, 26, 60, 50, 100, 40, 90, 50, 100, 40, 100, 50, 100, 50), 1, 1, 8},
	} {
		if n, ok := impl.CoverageOf(c.list, c.row, c.col); !ok || n != c.want {
			t.Error(c, n, ok)
		}
	}
}

func TestP9TheCoverageOfEveryCell(t *testing.T) {
	for _, list := range lineLists() {
		for n := range 400 {
			want := plainCount(list, n/20, n%20)
			if n, ok := impl.CoverageOf(list, n/20, n%20); !ok || n != want {
				t.Error(list, n, ok, want)
			}
		}
	}
}

func TestP9ACellThatIsJustCovered(t *testing.T) {
	for _, cell := range [][2]int{{0, 0}, {0, 19}, {19, 0}, {19, 19}, {7, 12}} {
		row, col := cell[0], cell[1]
		for y := max(0, 50*row-350); y <= min(1000, 50*row+400); y++ {
			swath := max(y-50*row, 50*row+50-y)
			for _, more := range []int{-1, 0, 1} {
				if swath+more < 1 || swath+more > 300 {
					continue
				}
				list := linesOf(y, 50*col, 50*col+50, swath+more)
				if n, ok := impl.CoverageOf(list, row, col); !ok || (n == 1) != (more >= 0) {
					t.Error(list, cell, n, ok)
				}
			}
		}
	}
}

func TestP9CoverageOfRefuses(t *testing.T) {
	check := func(list []impl.SurveyLine, row, col int) {
		t.Helper()
		if n, ok := impl.CoverageOf(list, row, col); ok || n != 0 {
			t.Error(list, row, col, n, ok)
		}
	}
	for _, list := range lineLists() {
		for _, n := range []int{math.MinInt, -20, -1, 20, 21, 400, math.MaxInt} {
			for _, m := range []int{n, 0, 5, 19} {
				check(list, n, m)
				check(list, m, n)
			}
		}
	}
	for _, list := range wrongLineLists() {
		check(list, 0, 0)
		check(list, 3, 2)
		check(list, 19, 19)
	}
}

func TestP9CellsCovered(t *testing.T) {
	given := linesOf(50, 0, 200, 50, 125, 50, 150, 75)
	often := linesOf(75, 0, 1000, 25, 75, 0, 100, 25, 75, 50, 150, 25, 75, 50, 100, 25, 75, 49, 101, 26, 60, 50, 100, 40, 90, 50, 100, 40, 100, 50, 100, 50)
	for _, c := range []struct {
		list  []impl.SurveyLine
		times int
		want  int
	}{
		{given, 1, 12}, {given, 2, 2}, {given, 3, 0}, {given, 8, 0}, {nil, 1, 0}, {[]impl.SurveyLine{}, 8, 0},
		{often, 8, 1}, {often, 7, 1}, {often, 3, 1}, {often, 2, 3}, {often, 1, 21},
		{linesOf(50, 0, 50, 50), 1, 2}, {linesOf(50, 0, 50, 49), 1, 0}, {linesOf(50, 0, 49, 50), 1, 0}, {linesOf(50, 1, 50, 300), 1, 0}, {linesOf(0, 0, 1000, 300), 1, 120}, {linesOf(1000, 0, 1000, 300), 1, 120},
		{linesOf(200, 0, 1000, 200, 600, 0, 1000, 200, 900, 0, 1000, 100), 1, 400}, {linesOf(200, 0, 1000, 200, 600, 0, 1000, 200, 900, 0, 1000, 100), 2, 0}, {linesOf(200, 0, 1000, 200, 600, 0, 1000, 200, 901, 0, 1000, 100), 1, 380},
	} {
		if n, ok := impl.CellsCovered(c.list, c.times); !ok || n != c.want {
			t.Error(c, n, ok)
		}
	}
}

func TestP9CellsCoveredCountsTheCellsOfACoverage(t *testing.T) {
	for _, list := range lineLists() {
		atLeast := [10]int{}
		for n := range 400 {
			for times := range plainCount(list, n/20, n%20) + 1 {
				atLeast[times]++
			}
		}
		for times := 1; times <= 8; times++ {
			if n, ok := impl.CellsCovered(list, times); !ok || n != atLeast[times] {
				t.Error(list, times, n, ok, atLeast[times])
			}
		}
	}
}

func TestP9CellsCoveredRefuses(t *testing.T) {
	for _, list := range lineLists() {
		for _, times := range []int{math.MinInt, -1, 0, 9, 10, math.MaxInt} {
			if n, ok := impl.CellsCovered(list, times); ok || n != 0 {
				t.Error(list, times, n, ok)
			}
		}
	}
	for _, list := range wrongLineLists() {
		for _, times := range []int{1, 2, 8} {
			if n, ok := impl.CellsCovered(list, times); ok || n != 0 {
				t.Error(list, times, n, ok)
			}
		}
	}
}

func TestP9CellsIn(t *testing.T) {
	for _, c := range []struct {
		b    impl.Box
		want int
	}{
		{impl.Box{West: 10, East: 160, North: 100}, 4}, {impl.Box{East: 1000, North: 1000}, 400},
		// The edges of a cell, and a meter less on each side.
		{impl.Box{West: 50, South: 100, East: 100, North: 150}, 1}, {impl.Box{West: 51, South: 100, East: 100, North: 150}, 0}, {impl.Box{West: 50, South: 101, East: 100, North: 150}, 0},
		{impl.Box{West: 50, South: 100, East: 99, North: 150}, 0}, {impl.Box{West: 50, South: 100, East: 100, North: 149}, 0}, {impl.Box{West: 49, South: 99, East: 101, North: 151}, 1},
		{impl.Box{West: 1, East: 1000, North: 1000}, 380}, {impl.Box{South: 1, East: 1000, North: 1000}, 380}, {impl.Box{East: 999, North: 1000}, 380}, {impl.Box{East: 1000, North: 999}, 380}, {impl.Box{West: 1, South: 1, East: 999, North: 999}, 324},
		// No whole cell, though one would have room.
		{impl.Box{West: 49, East: 99, North: 50}, 0}, {impl.Box{West: 1, South: 1, East: 98, North: 98}, 0}, {impl.Box{West: 1, South: 1, East: 99, North: 99}, 0}, {impl.Box{West: 1, South: 1, East: 100, North: 100}, 1},
		// Without width or height.
		{impl.Box{}, 0}, {impl.Box{North: 1000}, 0}, {impl.Box{East: 1000}, 0}, {impl.Box{West: 50, South: 50, East: 50, North: 50}, 0}, {impl.Box{West: 50, East: 50, North: 1000}, 0}, {impl.Box{South: 50, East: 1000, North: 50}, 0},
		{impl.Box{West: 1000, South: 1000, East: 1000, North: 1000}, 0}, {impl.Box{West: 950, South: 950, East: 1000, North: 1000}, 1},
		{impl.Box{East: 100, North: 150}, 6}, {impl.Box{East: 150, North: 100}, 6}, {impl.Box{East: 50, North: 1000}, 20}, {impl.Box{East: 1000, North: 50}, 20},
	} {
		if n, ok := impl.CellsIn(c.b); !ok || n != c.want {
			t.Error(c, n, ok)
		}
	}
}

func TestP9CellsInEveryBox(t *testing.T) {
	for _, b := range append(gridBoxes(), cellBoxes()...) {
		want := len(plainUncovered(nil, b))
		if n, ok := impl.CellsIn(b); !ok || n != want {
			t.Error(b, n, ok, want)
		}
	}
	for _, b := range wrongBoxes {
		if n, ok := impl.CellsIn(b); ok || n != 0 {
			t.Error(b, n, ok)
		}
	}
}

func TestP9UncoveredIn(t *testing.T) {
	given := linesOf(50, 0, 200, 50, 125, 50, 150, 75)
	all := impl.Box{East: 1000, North: 1000}
	whole := linesOf(200, 0, 1000, 200, 600, 0, 1000, 200, 900, 0, 1000, 100)
	for _, c := range []struct {
		list []impl.SurveyLine
		b    impl.Box
		want [][2]int
	}{
		{given, impl.Box{East: 100, North: 150}, [][2]int{{2, 0}}}, {given, impl.Box{East: 100, North: 149}, nil}, {given, impl.Box{West: 1, East: 100, North: 150}, nil},
		{given, impl.Box{East: 250, North: 200}, [][2]int{{0, 4}, {1, 4}, {2, 0}, {2, 3}, {2, 4}, {3, 0}, {3, 3}, {3, 4}}}, {given, impl.Box{East: 200, North: 100}, nil},
		{nil, impl.Box{East: 100, North: 150}, [][2]int{{0, 0}, {0, 1}, {1, 0}, {1, 1}, {2, 0}, {2, 1}}}, {nil, impl.Box{West: 500, South: 100, East: 600, North: 200}, [][2]int{{2, 10}, {2, 11}, {3, 10}, {3, 11}}},
		{nil, impl.Box{West: 450, South: 450, East: 550, North: 550}, [][2]int{{9, 9}, {9, 10}, {10, 9}, {10, 10}}},
		{nil, impl.Box{West: 950, South: 950, East: 1000, North: 1000}, [][2]int{{19, 19}}}, {nil, impl.Box{}, nil}, {given, impl.Box{West: 300, South: 300, East: 300, North: 400}, nil}, {given, impl.Box{West: 301, South: 301, East: 399, North: 399}, nil},
		// No uncovered cell, and one that is a meter too far.
		{whole, all, nil}, {whole, impl.Box{West: 10, East: 700, South: 20, North: 800}, nil}, {linesOf(450, 150, 200, 50), impl.Box{West: 150, South: 400, East: 200, North: 500}, nil},
		{linesOf(449, 150, 200, 50), impl.Box{West: 150, South: 400, East: 200, North: 500}, [][2]int{{9, 3}}}, {linesOf(451, 150, 200, 50), impl.Box{West: 150, South: 400, East: 200, North: 500}, [][2]int{{8, 3}}},
		{linesOf(450, 151, 200, 50), impl.Box{West: 150, South: 400, East: 200, North: 500}, [][2]int{{8, 3}, {9, 3}}}, {linesOf(450, 150, 199, 50), impl.Box{West: 150, South: 400, East: 200, North: 500}, [][2]int{{8, 3}, {9, 3}}},
	} {
		if cells, ok := impl.UncoveredIn(c.list, c.b); !ok || !slices.Equal(cells, c.want) {
			t.Error(c, cells, ok)
		}
	}
	if cells, ok := impl.UncoveredIn(nil, all); !ok || len(cells) != 400 || cells[0] != [2]int{} || cells[20] != [2]int{1, 0} || cells[399] != [2]int{19, 19} {
		t.Error("the whole grid", cells, ok)
	}
}

func TestP9UncoveredInEveryBox(t *testing.T) {
	boxes := slices.Concat(gridBoxes(), []impl.Box{{East: 250, North: 250}, {West: 50, South: 50, East: 150, North: 100}, {West: 51, South: 49, East: 649, North: 551}, {West: 350, South: 700, East: 1000, North: 950}})
	for _, list := range lineLists() {
		uncovered := plainUncovered(list, impl.Box{East: 1000, North: 1000})
		for _, b := range boxes {
			want := slices.DeleteFunc(slices.Clone(uncovered), func(cell [2]int) bool { return !plainIsIn(cell[0], cell[1], b) })
			cells, ok := impl.UncoveredIn(list, b)
			if !ok || !slices.Equal(cells, want) {
				t.Error(list, b, cells, ok, want)
			}
		}
		// Each cell of the grid is covered at least once or not at all.
		if n, ok := impl.CellsCovered(list, 1); !ok || n+len(uncovered) != 400 {
			t.Error(list, n, ok)
		}
	}
}

func TestP9UncoveredInRefuses(t *testing.T) {
	for _, list := range lineLists() {
		for _, b := range wrongBoxes {
			if cells, ok := impl.UncoveredIn(list, b); ok || len(cells) != 0 {
				t.Error(list, b, cells, ok)
			}
		}
	}
	for _, list := range wrongLineLists() {
		if cells, ok := impl.UncoveredIn(list, impl.Box{East: 1000, North: 1000}); ok || len(cells) != 0 {
			t.Error(list, cells, ok)
		}
	}
}

func TestP9LineLengths(t *testing.T) {
	for _, c := range []struct {
		list []impl.SurveyLine
		want int
	}{
		{linesOf(50, 0, 200, 50, 125, 50, 150, 75), 300}, {nil, 0}, {[]impl.SurveyLine{}, 0}, {linesOf(0, 0, 1, 1), 1}, {linesOf(0, 999, 1000, 1), 1}, {linesOf(0, 0, 1000, 1), 1000}, {linesOf(500, 100, 250, 300), 150},
		{linesOf(5, 0, 1000, 1, 5, 0, 1000, 1, 5, 0, 1000, 1, 5, 0, 1000, 1, 5, 0, 1000, 1, 5, 0, 1000, 1, 5, 0, 1000, 1, 5, 0, 1000, 1), 8000},
	} {
		if n, ok := impl.LineLengths(c.list); !ok || n != c.want {
			t.Error(c, n, ok)
		}
	}
	for _, list := range lineLists() {
		want := 0
		for _, l := range list {
			for x := range 1000 {
				if l.From <= x && x < l.To {
					want++
				}
			}
		}
		if n, ok := impl.LineLengths(list); !ok || n != want {
			t.Error(list, n, ok, want)
		}
	}
	for _, list := range wrongLineLists() {
		if n, ok := impl.LineLengths(list); ok || n != 0 {
			t.Error(list, n, ok)
		}
	}
}

func TestP9OverlapOf(t *testing.T) {
	for _, c := range []struct {
		list []impl.SurveyLine
		a, b int
		want int
	}{
		{linesOf(50, 0, 200, 50, 125, 50, 150, 75), 3, 6, 50},
		// One line with itself, also beyond the grid.
		{linesOf(50, 0, 200, 50, 125, 50, 150, 75), 3, 3, 100}, {linesOf(50, 0, 200, 50, 125, 50, 150, 75), 6, 6, 150}, {linesOf(0, 0, 5, 1), 3, 3, 2}, {linesOf(0, 0, 5, 300), 3, 3, 600}, {linesOf(1000, 0, 5, 300), 3, 3, 600},
		// Strips that touch, that are a meter apart, and that have a meter in common.
		{linesOf(100, 0, 5, 30, 200, 0, 5, 70), 3, 6, 0}, {linesOf(100, 0, 5, 30, 201, 0, 5, 70), 3, 6, 0}, {linesOf(100, 0, 5, 30, 199, 0, 5, 70), 3, 6, 1}, {linesOf(100, 0, 5, 31, 200, 0, 5, 70), 3, 6, 1}, {linesOf(100, 0, 5, 30, 200, 0, 5, 71), 3, 6, 1},
		{linesOf(0, 0, 5, 1, 1000, 0, 5, 1), 3, 6, 0}, {linesOf(0, 0, 5, 300, 1000, 0, 5, 300), 3, 6, 0},
		// One within the other.
		{linesOf(100, 0, 5, 90, 120, 0, 5, 10), 3, 6, 20}, {linesOf(100, 0, 5, 90, 100, 0, 5, 90), 3, 6, 180}, {linesOf(100, 0, 5, 90, 180, 0, 5, 10), 3, 6, 20}, {linesOf(100, 0, 5, 90, 181, 0, 5, 10), 3, 6, 19}, {linesOf(100, 0, 5, 90, 20, 0, 5, 10), 3, 6, 20}, {linesOf(100, 0, 5, 90, 19, 0, 5, 10), 3, 6, 19},
		// Beyond the grid.
		{linesOf(10, 0, 5, 100, 20, 0, 5, 100), 3, 6, 190}, {linesOf(0, 0, 5, 300, 0, 0, 5, 300), 3, 6, 600}, {linesOf(990, 0, 5, 100, 1000, 0, 5, 300), 3, 6, 200}, {linesOf(0, 0, 5, 300, 100, 0, 5, 300), 3, 6, 500},
		// From west to east they need not meet; other lines do not matter.
		{linesOf(100, 0, 5, 30, 110, 900, 1000, 30), 3, 6, 50}, {linesOf(100, 0, 5, 30, 500, 0, 5, 300, 110, 900, 1000, 30), 3, 9, 50}, {linesOf(100, 0, 5, 30, 500, 0, 5, 300, 110, 900, 1000, 30), 6, 6, 600},
	} {
		for _, ids := range [][2]int{{c.a, c.b}, {c.b, c.a}} {
			if n, ok := impl.OverlapOf(c.list, ids[0], ids[1]); !ok || n != c.want {
				t.Error(c, ids, n, ok)
			}
		}
	}
}

func TestP9AnOverlapIsTheMetersInBothStrips(t *testing.T) {
	for _, list := range lineLists() {
		for _, a := range list {
			for _, b := range list {
				want := 0
				for y := -300; y < 1300; y++ {
					if a.Y-a.Swath <= y && y+1 <= a.Y+a.Swath && b.Y-b.Swath <= y && y+1 <= b.Y+b.Swath {
						want++
					}
				}
				if n, ok := impl.OverlapOf(list, a.Id, b.Id); !ok || n != want {
					t.Error(list, a, b, n, ok, want)
				}
			}
		}
	}
}

func TestP9OverlapOfRefuses(t *testing.T) {
	check := func(list []impl.SurveyLine, a, b int) {
		t.Helper()
		if n, ok := impl.OverlapOf(list, a, b); ok || n != 0 {
			t.Error(list, a, b, n, ok)
		}
	}
	for _, list := range lineLists() {
		for _, id := range []int{math.MinInt, -3, -1, 0, 4, 5, 8, 100, math.MaxInt} {
			check(list, id, id)
			for _, l := range list {
				check(list, l.Id, id)
				check(list, id, l.Id)
			}
		}
	}
	for _, list := range wrongLineLists() {
		check(list, list[0].Id, list[0].Id)
		check(list, list[0].Id, list[len(list)-1].Id)
		check(list, 3, 6)
	}
}

func TestP9PlanLines(t *testing.T) {
	for _, c := range []struct {
		b     impl.Box
		swath int
		want  []int
	}{
		{impl.Box{East: 100, North: 150}, 50, []int{50, 150}}, {impl.Box{West: 40, South: 20, East: 100, North: 150}, 50, []int{70, 150}},
		// A height that is just that of the strips, and a meter more or less.
		{impl.Box{East: 1, North: 200}, 50, []int{50, 150}}, {impl.Box{East: 1, North: 201}, 50, []int{50, 150, 201}}, {impl.Box{East: 1, North: 199}, 50, []int{50, 150}},
		{impl.Box{East: 1, North: 100}, 50, []int{50}}, {impl.Box{East: 1, North: 101}, 50, []int{50, 101}}, {impl.Box{East: 1, South: 600, North: 800}, 50, []int{650, 750}}, {impl.Box{East: 1, South: 600, North: 801}, 50, []int{650, 750, 801}},
		// A last line that would be north of North, at North and south of it.
		{impl.Box{East: 1, North: 149}, 50, []int{50, 149}}, {impl.Box{East: 1, North: 150}, 50, []int{50, 150}}, {impl.Box{East: 1, North: 151}, 50, []int{50, 150}}, {impl.Box{East: 1, South: 300, North: 950}, 300, []int{600, 950}},
		// Boxes lower than a Swath, and without height.
		{impl.Box{East: 1, North: 50}, 50, []int{50}}, {impl.Box{East: 1, North: 49}, 50, []int{49}}, {impl.Box{East: 1, North: 51}, 50, []int{50}}, {impl.Box{East: 1, North: 1}, 300, []int{1}}, {impl.Box{East: 1, South: 990, North: 1000}, 300, []int{1000}},
		{impl.Box{East: 1}, 50, []int{0}}, {impl.Box{East: 1}, 1, []int{0}}, {impl.Box{East: 1, South: 1000, North: 1000}, 300, []int{1000}}, {impl.Box{East: 1, South: 77, North: 77}, 300, []int{77}},
		// The least Swath.
		{impl.Box{East: 1, North: 1}, 1, []int{1}}, {impl.Box{East: 1, North: 2}, 1, []int{1}}, {impl.Box{East: 1, North: 3}, 1, []int{1, 3}}, {impl.Box{East: 1, North: 16}, 1, []int{1, 3, 5, 7, 9, 11, 13, 15}}, {impl.Box{East: 1, South: 984, North: 1000}, 1, []int{985, 987, 989, 991, 993, 995, 997, 999}},
		// Just MaxLines, and one more.
		{impl.Box{East: 1, North: 800}, 50, []int{50, 150, 250, 350, 450, 550, 650, 750}}, {impl.Box{East: 1, North: 701}, 50, []int{50, 150, 250, 350, 450, 550, 650, 701}}, {impl.Box{East: 1, North: 801}, 50, nil}, {impl.Box{East: 1, North: 17}, 1, nil}, {impl.Box{East: 1, North: 1000}, 1, nil},
		// The whole grid.
		{impl.Box{East: 1000, North: 1000}, 300, []int{300, 900}}, {impl.Box{East: 1000, North: 1000}, 250, []int{250, 750}}, {impl.Box{East: 1000, North: 1000}, 249, []int{249, 747, 1000}}, {impl.Box{East: 1000, North: 1000}, 63, []int{63, 189, 315, 441, 567, 693, 819, 945}}, {impl.Box{East: 1000, North: 1000}, 62, nil},
		// A meter wide, wherever that is.
		{impl.Box{West: 999, East: 1000, North: 10}, 300, []int{10}}, {impl.Box{West: 500, East: 501, South: 5, North: 10}, 2, []int{7, 10}},
	} {
		planned, ok := impl.PlanLines(c.b, c.swath)
		if ok != (c.want != nil) || len(planned) != len(c.want) {
			t.Error(c, planned, ok)
			continue
		}
		for i, l := range planned {
			if l != (impl.SurveyLine{Id: i + 1, Y: c.want[i], From: c.b.West, To: c.b.East, Swath: c.swath}) {
				t.Error(c, planned)
			}
		}
	}
}

// halfMetersSeen returns how many half meters of a Box, from South to North, are in a strip of the lines.
func halfMetersSeen(list []impl.SurveyLine, b impl.Box) int {
	seen := 0
	for half := 2 * b.South; half <= 2*b.North; half++ {
		if slices.ContainsFunc(list, func(l impl.SurveyLine) bool { return 2*(l.Y-l.Swath) <= half && half <= 2*(l.Y+l.Swath) }) {
			seen++
		}
	}
	return seen
}

func TestP9PlannedStripsHaveAllOfTheirBoxAndOneLineFewerWouldNot(t *testing.T) {
	for _, south := range []int{0, 1, 37, 500, 850, 999, 1000} {
		for north := south; north <= 1000; north += 1 + (north-south)/40 {
			for _, swath := range []int{1, 2, 3, 7, 20, 49, 50, 51, 62, 63, 150, 299, 300} {
				b := impl.Box{West: south / 2, South: south, East: 600, North: north}
				planned, ok := impl.PlanLines(b, swath)
				if !ok {
					// Even the most lines see too little.
					if 2*swath*impl.MaxLines >= north-south || len(planned) != 0 {
						t.Error("no plan", b, swath, planned)
					}
					continue
				}
				if halfMetersSeen(planned, b) != 2*(north-south)+1 || !impl.AreLines(planned) {
					t.Error("not all of the box", b, swath, planned)
				}
				for i := range planned {
					if fewer := slices.Delete(slices.Clone(planned), i, i+1); halfMetersSeen(fewer, b) == 2*(north-south)+1 {
						t.Error("one line too many", b, swath, planned, i)
					}
				}
				if fewer := len(planned) - 1; fewer > 0 && 2*swath*fewer >= north-south {
					t.Error("not the fewest", b, swath, planned)
				}
			}
		}
	}
}

func TestP9EveryPlan(t *testing.T) {
	for _, south := range []int{0, 400} {
		for north := south; north <= 1000; north++ {
			for swath := 1; swath <= 300; swath++ {
				// Each strip begins where the one before it ends, until all of the Box is seen.
				want := []impl.SurveyLine{}
				for seen := south; len(want) == 0 || seen < north; seen += 2 * swath {
					want = append(want, impl.SurveyLine{Id: len(want) + 1, Y: min(seen+swath, north), From: 3, To: 9, Swath: swath})
				}
				valid := len(want) <= 8
				planned, ok := impl.PlanLines(impl.Box{West: 3, South: south, East: 9, North: north}, swath)
				if ok != valid || valid && !slices.Equal(planned, want) || !valid && len(planned) != 0 {
					t.Error(south, north, swath, planned, ok)
				}
			}
		}
	}
}

func TestP9PlanLinesRefuses(t *testing.T) {
	check := func(b impl.Box, swath int) {
		t.Helper()
		if planned, ok := impl.PlanLines(b, swath); ok || len(planned) != 0 {
			t.Error(b, swath, planned, ok)
		}
	}
	for _, swath := range []int{1, 50, 300} {
		for _, b := range wrongBoxes {
			check(b, swath)
		}
		for _, b := range gridBoxes() {
			if b.West == b.East {
				check(b, swath)
			}
		}
	}
	for _, swath := range wrongSwaths {
		for _, b := range gridBoxes() {
			check(b, swath)
		}
	}
}

func TestP9APlanCoversAllCellsOfItsBox(t *testing.T) {
	for _, south := range []int{0, 50, 500, 950} {
		for north := south + 50; north <= 1000; north += 50 {
			// Cells that lie across the end of a strip are covered by no line, so the strips are whole cells high.
			for _, swath := range []int{25, 50, 75, 100, 300} {
				b := impl.Box{West: 100, South: south, East: 300, North: north}
				planned, ok := impl.PlanLines(b, swath)
				if !ok {
					continue
				}
				if cells, ok := impl.UncoveredIn(planned, b); !ok || len(cells) != 0 {
					t.Error(b, planned, cells, ok)
				}
				fewer := planned[:len(planned)-1]
				if cells, ok := impl.UncoveredIn(fewer, b); !ok || len(cells) == 0 {
					t.Error(b, fewer, cells, ok)
				}
			}
		}
	}
}

func TestP9SailedOrder(t *testing.T) {
	for _, c := range []struct {
		list []impl.SurveyLine
		want []int
	}{
		{linesOf(90, 0, 5, 1, 20, 0, 5, 1), []int{6, 3}}, {linesOf(20, 0, 5, 1, 90, 0, 5, 1), []int{3, 6}}, {nil, nil}, {[]impl.SurveyLine{}, nil}, {linesOf(20, 0, 5, 1), []int{3}},
		// Equal Y: by Ids.
		{linesOf(20, 0, 5, 1, 20, 0, 5, 1), []int{3, 6}}, {linesOf(20, 100, 500, 90, 20, 0, 5, 1), []int{3, 6}}, {linesOf(90, 0, 5, 1, 20, 0, 5, 1, 90, 0, 5, 1, 20, 0, 5, 1), []int{6, 12, 3, 9}}, {linesOf(20, 0, 5, 1, 19, 0, 5, 1, 20, 0, 5, 1), []int{6, 3, 9}},
		{linesOf(5, 0, 5, 1, 5, 0, 4, 1, 5, 0, 3, 1, 5, 0, 2, 1, 5, 0, 1, 1, 5, 2, 3, 9, 5, 1, 2, 9, 5, 0, 1, 9), []int{3, 6, 9, 12, 15, 18, 21, 24}},
		// The most lines, turned round and mixed.
		{linesOf(1000, 0, 5, 1, 999, 0, 5, 1, 800, 0, 5, 1, 500, 0, 5, 1, 300, 0, 5, 1, 7, 0, 5, 1, 1, 0, 5, 1, 0, 0, 5, 1), []int{24, 21, 18, 15, 12, 9, 6, 3}},
		{linesOf(5, 0, 5, 1, 1000, 0, 5, 1, 4, 0, 5, 1, 5, 0, 5, 1, 0, 0, 5, 1, 1000, 0, 5, 1, 6, 0, 5, 1, 0, 0, 5, 1), []int{15, 24, 9, 3, 12, 21, 6, 18}},
		// Neither From nor To nor Swath matter.
		{linesOf(90, 0, 5, 300, 20, 900, 1000, 1, 50, 3, 400, 70), []int{6, 9, 3}},
	} {
		if ids, ok := impl.SailedOrder(c.list); !ok || !slices.Equal(ids, c.want) {
			t.Error(c, ids, ok)
		}
	}
	for _, list := range lineLists() {
		if ids, ok := impl.SailedOrder(list); !ok || !slices.Equal(ids, plainOrder(list)) {
			t.Error(list, ids, ok)
		}
	}
	for _, list := range wrongLineLists() {
		if ids, ok := impl.SailedOrder(list); ok || len(ids) != 0 {
			t.Error(list, ids, ok)
		}
	}
}

func TestP9TurnsOf(t *testing.T) {
	for _, c := range []struct {
		list []impl.SurveyLine
		want int
	}{
		{linesOf(50, 0, 200, 50, 125, 50, 150, 75), 125},
		// No line and one.
		{nil, 0}, {[]impl.SurveyLine{}, 0}, {linesOf(50, 20, 200, 50), 0}, {linesOf(1000, 0, 1000, 300), 0},
		// Two: only where the first one ends and the second one begins counts.
		{linesOf(50, 20, 200, 50, 60, 90, 200, 1), 10}, {linesOf(50, 20, 200, 50, 60, 90, 201, 1), 11}, {linesOf(50, 20, 200, 50, 60, 90, 199, 1), 11}, {linesOf(50, 20, 200, 50, 50, 20, 200, 50), 0}, {linesOf(0, 0, 1, 1, 1000, 0, 1000, 1), 1999},
		{linesOf(60, 20, 200, 50, 50, 90, 300, 1), 110}, {linesOf(50, 0, 400, 50, 50, 0, 100, 1), 300}, {linesOf(0, 999, 1000, 1, 1000, 0, 1, 1), 1999},
		// More: to the west, then to the east again.
		{linesOf(10, 0, 100, 5, 20, 10, 120, 5, 30, 40, 300, 5), 70}, {linesOf(10, 0, 100, 5, 20, 10, 120, 5, 30, 7, 300, 5), 43}, {linesOf(10, 0, 100, 5, 20, 0, 100, 5, 30, 0, 100, 5, 40, 0, 100, 5), 30},
		{linesOf(10, 0, 100, 5, 20, 10, 120, 5, 30, 40, 300, 5, 30, 1, 250, 5), 120}, {linesOf(30, 40, 300, 5, 20, 10, 120, 5, 10, 0, 100, 5), 70},
		// Equal Y: by Ids.
		{linesOf(10, 0, 100, 5, 10, 30, 50, 5), 50}, {linesOf(10, 30, 50, 5, 10, 0, 100, 5), 50}, {linesOf(10, 0, 1, 5, 10, 0, 100, 5, 10, 20, 50, 5), 119}, {linesOf(10, 0, 1, 5, 10, 20, 50, 5, 10, 0, 100, 5), 69},
		// The most.
		{linesOf(0, 0, 1000, 1, 1, 0, 1000, 1, 2, 0, 1000, 1, 3, 0, 1000, 1, 4, 0, 1000, 1, 5, 0, 1000, 1, 6, 0, 1000, 1, 1000, 0, 1000, 1), 1000},
		{linesOf(0, 0, 1, 1, 0, 999, 1000, 1, 0, 0, 1, 1, 0, 999, 1000, 1, 0, 0, 1, 1, 0, 999, 1000, 1, 0, 0, 1, 1, 0, 999, 1000, 1), 999 * 7},
	} {
		if n, ok := impl.TurnsOf(c.list); !ok || n != c.want {
			t.Error(c, n, ok)
		}
	}
	for _, list := range lineLists() {
		if n, ok := impl.TurnsOf(list); !ok || n != plainTurns(list) {
			t.Error(list, n, ok, plainTurns(list))
		}
	}
	for _, list := range wrongLineLists() {
		if n, ok := impl.TurnsOf(list); ok || n != 0 {
			t.Error(list, n, ok)
		}
	}
}

func TestP29LineFunctionsLeaveTheirArguments(t *testing.T) {
	// What lies behind the length of the list is neither read nor written.
	whole := append(linesOf(150, 0, 200, 50, 125, 50, 150, 75, 50, 0, 100, 50), impl.SurveyLine{Id: 100}, impl.SurveyLine{Id: 1}, reef())
	before := slices.Clone(whole)
	b := impl.Box{East: 100, North: 200}
	for size := range len(whole) + 1 {
		list := whole[:size]
		valid := size <= 3
		if impl.AreLines(list) != valid {
			t.Error("AreLines", size)
		}
		if n, ok := impl.CoverageOf(list, 2, 1); ok != valid || ok && n != []int{0, 1, 2, 2}[size] {
			t.Error("CoverageOf", size, n, ok)
		}
		if n, ok := impl.CellsCovered(list, 1); ok != valid || ok && n != []int{0, 8, 10, 13}[size] {
			t.Error("CellsCovered", size, n, ok)
		}
		if cells, ok := impl.UncoveredIn(list, b); ok != valid || ok && len(cells) != []int{8, 4, 3, 0}[size] || !ok && len(cells) != 0 {
			t.Error("UncoveredIn", size, cells, ok)
		}
		if n, ok := impl.LineLengths(list); ok != valid || ok && n != []int{0, 200, 300, 400}[size] {
			t.Error("LineLengths", size, n, ok)
		}
		if n, ok := impl.OverlapOf(list, 3, 6); ok != (valid && size >= 2) || ok && n != 100 {
			t.Error("OverlapOf", size, n, ok)
		}
		if ids, ok := impl.SailedOrder(list); ok != valid || ok && !slices.Equal(ids, [][]int{{}, {3}, {6, 3}, {9, 6, 3}}[size]) {
			t.Error("SailedOrder", size, ids, ok)
		}
		if n, ok := impl.TurnsOf(list); ok != valid || ok && n != []int{0, 0, 75, 200}[size] {
			t.Error("TurnsOf", size, n, ok)
		}
	}
	if !slices.Equal(whole, before) {
		t.Error("the lines are now", whole)
	}
}

func TestP29LineResultsShareNothing(t *testing.T) {
	b := impl.Box{East: 300, North: 300}
	for _, count := range []int{0, 1, 3, 5} {
		// The list has room behind its length, in which no result may lie.
		room := make([]impl.SurveyLine, count, impl.MaxLines)
		copy(room, manyLines(count))
		for range 2 {
			cells, _ := impl.UncoveredIn(room, b)
			others, _ := impl.UncoveredIn(room, b)
			ids, _ := impl.SailedOrder(room)
			order, _ := impl.SailedOrder(room)
			planned, _ := impl.PlanLines(b, 50)
			plan, _ := impl.PlanLines(b, 50)
			if len(cells) == 0 || len(ids) != count || len(planned) != 3 {
				t.Fatal("no results", cells, ids, planned)
			}
			if !slices.Equal(cells, plainUncovered(room, b)) || !slices.Equal(ids, plainOrder(room)) || planned[2].Y != 250 {
				t.Error("other results", cells, ids, planned)
			}
			wantCells, wantIds, wantPlan := slices.Clone(others), slices.Clone(order), slices.Clone(plan)
			for i := range cells {
				cells[i] = [2]int{-7, -7}
			}
			for i := range ids {
				ids[i] = -7
			}
			for i := range planned {
				planned[i] = impl.SurveyLine{Id: -7}
			}
			_, _, _ = append(cells, [2]int{-8, -8}), append(ids, -8), append(planned, impl.SurveyLine{Id: -8})
			if !slices.Equal(others, wantCells) || !slices.Equal(order, wantIds) || !slices.Equal(plan, wantPlan) {
				t.Error("the other results are now", others, order, plan)
			}
		}
		if !slices.Equal(room[:impl.MaxLines], append(manyLines(count), make([]impl.SurveyLine, impl.MaxLines-count)...)) {
			t.Error("the lines are now", room[:impl.MaxLines])
		}
	}
}

func TestP29LineFunctionsReturnForAllArguments(t *testing.T) {
	numbers := []int{math.MinInt, -1001, -300, -1, 0, 1, 3, 6, 8, 9, 19, 20, 50, 99, 100, 300, 301, 999, 1000, 1001, 1 << 62, math.MaxInt}
	for _, a := range numbers {
		for _, b := range numbers {
			checkLines(t, nil, a, b)
			checkLines(t, manyLines(8), a, b)
			checkLines(t, manyLines(9), a, b)
			checkLines(t, linesOf(a, 0, 1000, b), a, b)
			checkLines(t, linesOf(50, a, b, 50, b, a, 1000, 300), b, a)
			checkLines(t, []impl.SurveyLine{{Id: a, Y: b, To: 5, Swath: 1}, {Id: b, Y: a, To: 5, Swath: 1}}, a, b)
		}
	}
	long := make([]impl.SurveyLine, 1000000)
	for i := range long {
		long[i] = impl.SurveyLine{Id: i + 1, To: 1, Swath: 1}
	}
	checkLines(t, long, 1, 2)
}

// checkLines tells whether the functions of a list return something only if they succeed.
func checkLines(t *testing.T, list []impl.SurveyLine, a, b int) {
	t.Helper()
	valid, box := impl.AreLines(list), impl.Box{West: a, South: a, East: b, North: b}
	isBox := impl.IsBox(box)
	areThere := slices.ContainsFunc(list, func(l impl.SurveyLine) bool { return l.Id == a }) && slices.ContainsFunc(list, func(l impl.SurveyLine) bool { return l.Id == b })
	isCell := 0 <= a && a < 20 && 0 <= b && b < 20
	if n, ok := impl.CoverageOf(list, a, b); ok != (valid && isCell) || n < 0 || n > len(list) || !ok && n != 0 {
		t.Error("coverage", a, b, n, ok)
	}
	if n, ok := impl.CellsCovered(list, a); ok != (valid && 1 <= a && a <= 8) || n < 0 || n > 400 || !ok && n != 0 {
		t.Error("covered", a, n, ok)
	}
	if n, ok := impl.CellsIn(box); ok != isBox || n < 0 || n > 400 || !ok && n != 0 {
		t.Error("cells", box, n, ok)
	}
	if cells, ok := impl.UncoveredIn(list, box); ok != (valid && isBox) || len(cells) > 400 || !ok && len(cells) != 0 {
		t.Error("uncovered", box, cells, ok)
	}
	if n, ok := impl.LineLengths(list); ok != valid || n < 0 || n > 8000 || !ok && n != 0 {
		t.Error("lengths", n, ok)
	}
	if n, ok := impl.OverlapOf(list, a, b); ok != (valid && areThere) || n < 0 || n > 600 || !ok && n != 0 {
		t.Error("overlap", a, b, n, ok)
	}
	if planned, ok := impl.PlanLines(box, b); ok && (!isBox || a == b || !impl.AreLines(planned) || len(planned) == 0) || !ok && len(planned) != 0 {
		t.Error("plan", box, b, planned, ok)
	}
	if planned, ok := impl.PlanLines(impl.Box{East: 5, North: 16}, a); ok != (1 <= a && a <= 300) || !ok && len(planned) != 0 {
		t.Error("plan", a, planned, ok)
	}
	if ids, ok := impl.SailedOrder(list); ok != valid || ok && len(ids) != len(list) || !ok && len(ids) != 0 {
		t.Error("order", ids, ok)
	}
	if n, ok := impl.TurnsOf(list); ok != valid || n < 0 || n > 14000 || !ok && n != 0 {
		t.Error("turns", n, ok)
	}
}
