package tests

import (
	"math"
	"slices"
	"strings"
	"testing"

	"loop.example/g01031/impl"
)

// wrongReadings are beyond a limit, by one or by far.
var wrongReadings = []impl.Reading{
	{Time: -1}, {Time: impl.MaxTime + 1}, {Time: math.MinInt}, {Time: math.MaxInt},
	{Time: 5, Level: -501}, {Time: 5, Level: 2001}, {Time: 5, Level: math.MinInt}, {Time: 5, Level: math.MaxInt},
	{Time: -1, Level: 2001},
}

// readingsOf makes Readings of pairs of a Time and a Level.
func readingsOf(numbers ...int) []impl.Reading {
	list := []impl.Reading{}
	for i := 0; i+1 < len(numbers); i += 2 {
		list = append(list, impl.Reading{Time: numbers[i], Level: numbers[i+1]})
	}
	return list
}

// gaugeOf makes a Gauge with a Zero and Readings of pairs of a Time and a Level.
func gaugeOf(zero int, numbers ...int) impl.Gauge {
	return impl.Gauge{Id: 7, Name: "pier", Zero: zero, Readings: readingsOf(numbers...)}
}

// manyReadings are Readings at the Times 0, 10, 20 and so on.
func manyReadings(count int) []impl.Reading {
	list := []impl.Reading{}
	for i := range count {
		list = append(list, impl.Reading{Time: 10 * i, Level: 3*i*i - 40*i})
	}
	return list
}

// manyGauges are Gauges with the Ids 1, 2, 3 and so on.
func manyGauges(count int) []impl.Gauge {
	list := []impl.Gauge{}
	for i := range count {
		list = append(list, impl.Gauge{Id: i + 1, Name: string(rune('a' + i)), Readings: manyReadings(i)})
	}
	return list
}

// copyOf is g with Readings of its own.
func copyOf(g impl.Gauge) impl.Gauge {
	g.Readings = slices.Clone(g.Readings)
	return g
}

// sameGauge tells whether two Gauges are equal in all that they have.
func sameGauge(a, b impl.Gauge) bool {
	return a.Id == b.Id && a.Name == b.Name && a.Zero == b.Zero && slices.Equal(a.Readings, b.Readings)
}

// isNoGauge tells whether g is the zero value of a Gauge.
func isNoGauge(g impl.Gauge) bool { return sameGauge(g, impl.Gauge{}) }

// goodGauges are at the limits or within them.
func goodGauges() []impl.Gauge {
	return []impl.Gauge{
		{Id: 1, Name: "a"}, {Id: 99, Name: "z"}, {Id: 50, Name: "abcdefghij", Readings: []impl.Reading{}},
		{Id: 3, Name: "zzzzzzzzzz", Zero: -1000}, {Id: 3, Name: "mole", Zero: 1000},
		gaugeOf(0, 0, 0), gaugeOf(0, impl.MaxTime, 2000), gaugeOf(0, 0, -500),
		gaugeOf(12, 0, 5, 1, 5, 2, 5), gaugeOf(-1000, 0, -500, impl.MaxTime, 2000),
		gaugeOf(1000, 9999, 2000, impl.MaxTime, -500),
		{Id: 8, Name: "quay", Readings: manyReadings(impl.MaxReadings - 1)},
		{Id: 8, Name: "quay", Zero: 30, Readings: manyReadings(impl.MaxReadings)},
	}
}

// wrongGauges are beyond a limit or out of order.
func wrongGauges() []impl.Gauge {
	list := []impl.Gauge{
		{}, {Id: 5}, {Name: "pier"}, {Id: 0, Name: "pier"}, {Id: -1, Name: "pier"}, {Id: 100, Name: "pier"},
		{Id: math.MinInt, Name: "pier"}, {Id: math.MaxInt, Name: "pier"},
		gaugeOf(-1001), gaugeOf(1001), gaugeOf(math.MinInt, 1, 1), gaugeOf(math.MaxInt, 1, 1),
		gaugeOf(0, 5, 1, 5, 1), gaugeOf(0, 5, 1, 5, 2), gaugeOf(0, 6, 1, 5, 1), gaugeOf(0, 1, 1, 5, 1, 4, 1),
		gaugeOf(0, 1, 1, 5, 1, 5, 1, 6, 1),
		{Id: 8, Name: "quay", Readings: manyReadings(impl.MaxReadings + 1)},
		{Id: 8, Name: "quay", Readings: manyReadings(40)},
	}
	for _, name := range []string{
		"", "abcdefghijk", "Pier", "pieR", "pi er", "pier ", " pier", "pier1", "pi-er", "`", "{", "a{", "`a",
		"pi\x00er", "\xff", "h\u00e4fen", strings.Repeat("a", 5000),
	} {
		list = append(list, impl.Gauge{Id: 5, Name: name, Readings: manyReadings(3)})
	}
	for _, r := range wrongReadings {
		list = append(list, impl.Gauge{Id: 5, Name: "pier", Readings: []impl.Reading{r}},
			impl.Gauge{Id: 5, Name: "pier", Readings: []impl.Reading{{Time: 1}, r}},
			impl.Gauge{Id: 5, Name: "pier", Readings: []impl.Reading{{Time: 1}, r, {Time: 20}}},
			impl.Gauge{Id: 5, Name: "pier", Readings: []impl.Reading{r, {Time: 20}}})
	}
	return list
}

func TestP3IsGauge(t *testing.T) {
	for _, g := range goodGauges() {
		if !impl.IsGauge(g) {
			t.Error("not valid", g)
		}
	}
	for _, g := range wrongGauges() {
		if impl.IsGauge(g) {
			t.Error("valid", g)
		}
	}
	for id := -3; id < 110; id++ {
		if impl.IsGauge(impl.Gauge{Id: id, Name: "pier"}) != (1 <= id && id <= 99) {
			t.Error("Id", id)
		}
	}
}

func TestP3AGaugeIsNamedByAWord(t *testing.T) {
	for b := range 256 {
		letter := 'a' <= b && b <= 'z'
		for _, name := range []string{string([]byte{byte(b)}), "a" + string([]byte{byte(b)}), string([]byte{byte(b)}) + "z"} {
			if impl.IsGauge(impl.Gauge{Id: 1, Name: name}) != letter {
				t.Errorf("the name %q", name)
			}
		}
	}
	for length := range 15 {
		if impl.IsGauge(impl.Gauge{Id: 1, Name: strings.Repeat("q", length)}) != (1 <= length && length <= 10) {
			t.Error("length", length)
		}
	}
}

func TestP3AreGauges(t *testing.T) {
	a, b, c := impl.Gauge{Id: 1, Name: "pier"}, impl.Gauge{Id: 2, Name: "mole"}, impl.Gauge{Id: 99, Name: "dock"}
	for _, list := range [][]impl.Gauge{
		nil, {}, {a}, {c}, {a, b}, {a, c}, {a, b, c}, manyGauges(impl.MaxGauges - 1), manyGauges(impl.MaxGauges),
	} {
		if !impl.AreGauges(list) {
			t.Error("not valid", list)
		}
	}
	for _, list := range [][]impl.Gauge{
		{a, a}, {b, a}, {a, c, b}, {b, b, c}, {a, {Id: 1, Name: "mole"}}, {a, {Id: 2, Name: "pier"}},
		{a, b, {Id: 3, Name: "pier"}}, {a, b, {Id: 3, Name: "mole"}}, {a, b, {Id: 2, Name: "dock"}},
		manyGauges(impl.MaxGauges + 1), manyGauges(15),
	} {
		if impl.AreGauges(list) {
			t.Error("valid", list)
		}
	}
	for _, g := range wrongGauges() {
		for _, list := range [][]impl.Gauge{
			{g}, {{Id: 4, Name: "aa"}, g}, {g, {Id: 6, Name: "bb"}}, {{Id: 4, Name: "aa"}, g, {Id: 98, Name: "bb"}},
		} {
			if impl.AreGauges(list) {
				t.Error("valid", list)
			}
		}
	}
}

func TestP3AddReading(t *testing.T) {
	for _, c := range []struct {
		g    impl.Gauge
		r    impl.Reading
		want []impl.Reading
	}{
		{gaugeOf(5), impl.Reading{Time: 10, Level: 1}, readingsOf(10, 1)},
		{gaugeOf(5), impl.Reading{}, readingsOf(0, 0)},
		{gaugeOf(5), impl.Reading{Time: impl.MaxTime, Level: 2000}, readingsOf(impl.MaxTime, 2000)},
		{gaugeOf(5), impl.Reading{Level: -500}, readingsOf(0, -500)},
		{gaugeOf(5, 10, 1), impl.Reading{Time: 9, Level: 2}, readingsOf(9, 2, 10, 1)},
		{gaugeOf(5, 10, 1), impl.Reading{Time: 11, Level: 2}, readingsOf(10, 1, 11, 2)},
		{gaugeOf(5, 10, 1), impl.Reading{Time: 10, Level: 2}, readingsOf(10, 2)},
		{gaugeOf(5, 10, 1), impl.Reading{Time: 10, Level: 1}, readingsOf(10, 1)},
		{gaugeOf(5, 10, 1, 20, 2, 30, 3), impl.Reading{Time: 5, Level: 9}, readingsOf(5, 9, 10, 1, 20, 2, 30, 3)},
		{gaugeOf(5, 10, 1, 20, 2, 30, 3), impl.Reading{Time: 15, Level: 9}, readingsOf(10, 1, 15, 9, 20, 2, 30, 3)},
		{gaugeOf(5, 10, 1, 20, 2, 30, 3), impl.Reading{Time: 25, Level: 9}, readingsOf(10, 1, 20, 2, 25, 9, 30, 3)},
		{gaugeOf(5, 10, 1, 20, 2, 30, 3), impl.Reading{Time: 35, Level: 9}, readingsOf(10, 1, 20, 2, 30, 3, 35, 9)},
		{gaugeOf(5, 10, 1, 20, 2, 30, 3), impl.Reading{Time: 10, Level: 9}, readingsOf(10, 9, 20, 2, 30, 3)},
		{gaugeOf(5, 10, 1, 20, 2, 30, 3), impl.Reading{Time: 20, Level: 9}, readingsOf(10, 1, 20, 9, 30, 3)},
		{gaugeOf(5, 10, 1, 20, 2, 30, 3), impl.Reading{Time: 30, Level: 9}, readingsOf(10, 1, 20, 2, 30, 9)},
	} {
		want := impl.Gauge{Id: 7, Name: "pier", Zero: 5, Readings: c.want}
		if got, ok := impl.AddReading(c.g, c.r); !ok || !sameGauge(got, want) {
			t.Error(c.g, c.r, got, ok)
		}
	}
}

func TestP3AddReadingToTheMost(t *testing.T) {
	most := impl.Gauge{Id: 8, Name: "quay", Readings: manyReadings(impl.MaxReadings)}
	for i := range most.Readings {
		// In place of one with the same Time the Gauge has no more Readings than before.
		want := copyOf(most)
		want.Readings[i].Level = 1234
		if got, ok := impl.AddReading(most, impl.Reading{Time: 10 * i, Level: 1234}); !ok || !sameGauge(got, want) {
			t.Error("replacing", i, got, ok)
		}
		if got, ok := impl.AddReading(most, impl.Reading{Time: 10*i + 1, Level: 1234}); ok || !isNoGauge(got) {
			t.Error("one too many", i, got, ok)
		}
	}
	lessOne := copyOf(most)
	lessOne.Readings = slices.Delete(lessOne.Readings, 4, 5)
	if got, ok := impl.AddReading(lessOne, most.Readings[4]); !ok || !sameGauge(got, most) {
		t.Error("the last one that fits", got, ok)
	}
}

func TestP3AddReadingRefuses(t *testing.T) {
	for _, r := range wrongReadings {
		for _, g := range goodGauges() {
			if got, ok := impl.AddReading(g, r); ok || !isNoGauge(got) {
				t.Error(g, r, got, ok)
			}
		}
	}
	for _, g := range wrongGauges() {
		for _, time := range []int{0, 1, 5, 6, 20, 100, impl.MaxTime} {
			if got, ok := impl.AddReading(g, impl.Reading{Time: time, Level: 5}); ok || !isNoGauge(got) {
				t.Error(g, time, got, ok)
			}
		}
	}
	// The new Reading would take the place of the only wrong one, but the Gauge is not valid.
	if got, ok := impl.AddReading(gaugeOf(0, 1, 1, 5, 2001), impl.Reading{Time: 5, Level: 2000}); ok || !isNoGauge(got) {
		t.Error("the wrong one replaced", got, ok)
	}
	// With the wrong Level it takes the place of a good one.
	if got, ok := impl.AddReading(gaugeOf(0, 1, 1, 5, 5), impl.Reading{Time: 5, Level: 2001}); ok || !isNoGauge(got) {
		t.Error("replaced by a wrong one", got, ok)
	}
}

func TestP3HeightOf(t *testing.T) {
	g := gaugeOf(-30, 0, 100, 10, 30, 11, 29, 500, -500, impl.MaxTime, 2000)
	want := map[int]int{0: 70, 10: 0, 11: -1, 500: -530, impl.MaxTime: 1970}
	for time := -2; time < impl.MaxTime+3; time++ {
		height, isThere := want[time]
		if got, ok := impl.HeightOf(g, time); ok != isThere || got != height {
			t.Error(time, got, ok)
		}
	}
	for _, time := range []int{math.MinInt, math.MaxInt} {
		if got, ok := impl.HeightOf(g, time); ok || got != 0 {
			t.Error(time, got, ok)
		}
	}
	if got, ok := impl.HeightOf(gaugeOf(1000, 3, 2000), 3); !ok || got != 3000 {
		t.Error("the highest", got, ok)
	}
	if got, ok := impl.HeightOf(gaugeOf(-1000, 3, -500), 3); !ok || got != -1500 {
		t.Error("the lowest", got, ok)
	}
	if got, ok := impl.HeightOf(gaugeOf(20), 0); ok || got != 0 {
		t.Error("without Readings", got, ok)
	}
	for _, g := range wrongGauges() {
		for _, r := range append(g.Readings, impl.Reading{}) {
			if got, ok := impl.HeightOf(g, r.Time); ok || got != 0 {
				t.Error(g, r.Time, got, ok)
			}
		}
	}
}

func TestP3GapsOf(t *testing.T) {
	for _, c := range []struct {
		g       impl.Gauge
		minutes int
		want    [][]int
	}{
		{gaugeOf(0), 1, nil},
		{gaugeOf(0, 500, 1), 1, nil},
		{gaugeOf(0, 500, 1), 10000, nil},
		// Just the number of minutes is no gap, one more is.
		{gaugeOf(0, 10, 0, 30, 0), 19, [][]int{{10, 30}}},
		{gaugeOf(0, 10, 0, 30, 0), 20, nil},
		{gaugeOf(0, 10, 0, 30, 0), 21, nil},
		{gaugeOf(0, 10, 0, 30, 0, 51, 0), 20, [][]int{{30, 51}}},
		{gaugeOf(0, 10, 0, 31, 0, 51, 0), 20, [][]int{{10, 31}}},
		{gaugeOf(0, 1, 0, 2, 0, 3, 0), 1, nil},
		{gaugeOf(0, 1, 0, 3, 0, 4, 0, 6, 0), 1, [][]int{{1, 3}, {4, 6}}},
		// The time up to the first Reading and from the last one on is no gap.
		{gaugeOf(0, 900, 0, 901, 0), 5, nil},
		{gaugeOf(0, 0, 0, impl.MaxTime, 0), 9999, [][]int{{0, impl.MaxTime}}},
		{gaugeOf(0, 0, 0, impl.MaxTime, 0), 10000, nil},
		{gaugeOf(0, 0, 0, 100, 0, 300, 0, 400, 0, 700, 0), 99, [][]int{{0, 100}, {100, 300}, {300, 400}, {400, 700}}},
		{gaugeOf(0, 0, 0, 100, 0, 300, 0, 400, 0, 700, 0), 100, [][]int{{100, 300}, {400, 700}}},
		{gaugeOf(0, 0, 0, 100, 0, 300, 0, 400, 0, 700, 0), 200, [][]int{{400, 700}}},
	} {
		if got, ok := impl.GapsOf(c.g, c.minutes); !ok || !slices.EqualFunc(got, c.want, slices.Equal) {
			t.Error(c.g, c.minutes, got, ok)
		}
	}
	most := impl.Gauge{Id: 8, Name: "quay", Readings: manyReadings(impl.MaxReadings)}
	if got, ok := impl.GapsOf(most, 9); !ok || len(got) != impl.MaxReadings-1 {
		t.Error("the most gaps", got, ok)
	}
}

func TestP3GapsOfRefuses(t *testing.T) {
	for _, minutes := range []int{math.MinInt, -1, 0, 10001, math.MaxInt} {
		for _, g := range goodGauges() {
			if got, ok := impl.GapsOf(g, minutes); ok || len(got) != 0 {
				t.Error(g, minutes, got, ok)
			}
		}
	}
	for _, g := range wrongGauges() {
		if got, ok := impl.GapsOf(g, 1); ok || len(got) != 0 {
			t.Error(g, got, ok)
		}
	}
}

func TestP3HighWaters(t *testing.T) {
	for _, c := range []struct{ levels, times []int }{
		{nil, nil}, {[]int{5}, nil}, {[]int{5, 9}, nil}, {[]int{9, 5}, nil},
		{[]int{1, 5, 1}, []int{10}}, {[]int{5, 1, 5}, nil},
		{[]int{1, 2, 3}, nil}, {[]int{3, 2, 1}, nil}, {[]int{2, 2, 2}, nil},
		// Equal levels: the first of them, and whatever comes behind them.
		{[]int{1, 5, 5, 1}, []int{10}}, {[]int{1, 5, 5}, []int{10}}, {[]int{5, 5, 1}, nil},
		{[]int{1, 5, 5, 5, 1}, []int{10}}, {[]int{1, 5, 5, 9}, []int{10}}, {[]int{1, 5, 5, 9, 8}, []int{10, 30}},
		{[]int{1, 5, 5, 4, 5, 5, 4}, []int{10, 40}}, {[]int{9, 5, 5, 1}, nil},
		// By one more or less.
		{[]int{4, 5, 4}, []int{10}}, {[]int{4, 5, 6}, nil}, {[]int{5, 5, 4}, nil},
		{[]int{-500, 2000, -500, 2000, -500}, []int{10, 30}}, {[]int{-3, -2, -3}, []int{10}},
		{[]int{9, 1, 2, 1, 9}, []int{20}},
	} {
		g, want := gaugeOf(77), []impl.Reading{}
		for i, level := range c.levels {
			g.Readings = append(g.Readings, impl.Reading{Time: 10 * i, Level: level})
			if slices.Contains(c.times, 10*i) {
				want = append(want, g.Readings[i])
			}
		}
		if got, ok := impl.HighWaters(g); !ok || !slices.Equal(got, want) {
			t.Error(g, got, ok)
		}
	}
	for _, g := range wrongGauges() {
		if got, ok := impl.HighWaters(g); ok || len(got) != 0 {
			t.Error(g, got, ok)
		}
	}
}

func TestP3HighWatersOfTheMostReadings(t *testing.T) {
	g, want := gaugeOf(0), []impl.Reading{}
	for i := range impl.MaxReadings {
		r := impl.Reading{Time: 700 * i, Level: 100 * (i % 2)}
		g.Readings = append(g.Readings, r)
		if r.Level > 0 {
			want = append(want, r)
		}
	}
	if got, ok := impl.HighWaters(g); !ok || !slices.Equal(got, want) {
		t.Error(got, ok)
	}
}

func TestP3RangeOf(t *testing.T) {
	for _, c := range []struct {
		g         impl.Gauge
		low, high int
	}{
		{gaugeOf(0, 5, 3), 3, 3}, {gaugeOf(-7, 5, 3), -4, -4}, {gaugeOf(0, 5, 0), 0, 0},
		{gaugeOf(10, 1, 3, 2, 4), 13, 14}, {gaugeOf(10, 1, 4, 2, 3), 13, 14},
		{gaugeOf(10, 1, 3, 2, 9, 3, 4), 13, 19}, {gaugeOf(10, 1, 3, 2, -9, 3, 4), 1, 14},
		{gaugeOf(10, 1, -3, 2, -9, 3, -4), 1, 7}, {gaugeOf(0, 1, -3, 2, -9, 3, -4), -9, -3},
		{gaugeOf(1000, 1, 2000, 2, -500), 500, 3000}, {gaugeOf(-1000, 1, 2000, 2, -500), -1500, 1000},
		{impl.Gauge{Id: 8, Name: "quay", Zero: 1, Readings: manyReadings(impl.MaxReadings)}, 3*49 - 280 + 1, 3*14*14 - 560 + 1},
	} {
		if low, high, ok := impl.RangeOf(c.g); !ok || low != c.low || high != c.high {
			t.Error(c.g, low, high, ok)
		}
	}
	for _, g := range append(wrongGauges(), gaugeOf(0), gaugeOf(50), impl.Gauge{Id: 1, Name: "a", Zero: 9}) {
		if low, high, ok := impl.RangeOf(g); ok || low != 0 || high != 0 {
			t.Error(g, low, high, ok)
		}
	}
}

func TestP3ShiftZero(t *testing.T) {
	for _, c := range []struct {
		g    impl.Gauge
		to   int
		want impl.Gauge
	}{
		{gaugeOf(5, 10, 1, 20, -2), 5, gaugeOf(5, 10, 1, 20, -2)},
		{gaugeOf(5, 10, 1, 20, -2), 6, gaugeOf(6, 10, 0, 20, -3)},
		{gaugeOf(5, 10, 1, 20, -2), 4, gaugeOf(4, 10, 2, 20, -1)},
		{gaugeOf(5, 10, 1, 20, -2), -5, gaugeOf(-5, 10, 11, 20, 8)},
		{gaugeOf(0, 10, 1), 0, gaugeOf(0, 10, 1)},
		{gaugeOf(3), -1000, gaugeOf(-1000)}, {gaugeOf(3), 1000, gaugeOf(1000)}, {gaugeOf(3), 3, gaugeOf(3)},
		{gaugeOf(-1000), 1000, gaugeOf(1000)},
		{gaugeOf(1000, 10, 0), -1000, gaugeOf(-1000, 10, 2000)},
		{gaugeOf(-1000, 10, 2000), 1000, gaugeOf(1000, 10, 0)},
		// Levels that come just to their limits.
		{gaugeOf(100, 10, 1900, 20, 0), 0, gaugeOf(0, 10, 2000, 20, 100)},
		{gaugeOf(-100, 10, -400, 20, 0), 0, gaugeOf(0, 10, -500, 20, -100)},
	} {
		if got, ok := impl.ShiftZero(c.g, c.to); !ok || !sameGauge(got, c.want) {
			t.Error(c.g, c.to, got, ok)
		}
	}
}

func TestP3ShiftZeroRefuses(t *testing.T) {
	for _, c := range []struct {
		g  impl.Gauge
		to int
	}{
		{gaugeOf(100, 10, 1901, 20, 0), 0}, {gaugeOf(100, 10, 0, 20, 1901), 0},
		{gaugeOf(-100, 10, -401, 20, 0), 0}, {gaugeOf(-100, 10, 0, 20, -401), 0},
		{gaugeOf(1000, 10, 1), -1000}, {gaugeOf(-1000, 10, 1499), 1000 + 1},
		{gaugeOf(0), 1001}, {gaugeOf(0), -1001}, {gaugeOf(1000, 5, 5), 1001}, {gaugeOf(-1000, 5, 5), -1001},
		{gaugeOf(0), math.MinInt}, {gaugeOf(0), math.MaxInt}, {gaugeOf(0, 5, 5), math.MinInt}, {gaugeOf(0, 5, 5), math.MaxInt},
	} {
		if got, ok := impl.ShiftZero(c.g, c.to); ok || !isNoGauge(got) {
			t.Error(c.g, c.to, got, ok)
		}
	}
	for _, g := range wrongGauges() {
		// The shift might bring a wrong Zero or Level within its limits.
		for _, to := range []int{-1000, -1, 0, 1, 1000, g.Zero} {
			if got, ok := impl.ShiftZero(g, to); ok || !isNoGauge(got) {
				t.Error(g, to, got, ok)
			}
		}
	}
}

func TestP3HeightsStayWhenTheZeroIsShifted(t *testing.T) {
	for _, g := range goodGauges() {
		for to := -1003; to <= 1003; to++ {
			fits := -1000 <= to && to <= 1000
			for _, r := range g.Readings {
				level := r.Level + g.Zero - to
				fits = fits && -500 <= level && level <= 2000
			}
			shifted, ok := impl.ShiftZero(g, to)
			if ok != fits || !ok && !isNoGauge(shifted) {
				t.Fatal(g, to, shifted, ok)
			}
			if ok {
				checkShifted(t, g, shifted, to)
			}
		}
	}
}

// checkShifted checks that a Gauge differs from g in no more than its Zero and what it is
// counted from.
func checkShifted(t *testing.T, g, shifted impl.Gauge, to int) {
	t.Helper()
	if !impl.IsGauge(shifted) || shifted.Zero != to || shifted.Id != g.Id || shifted.Name != g.Name ||
		len(shifted.Readings) != len(g.Readings) {
		t.Fatal(g, to, shifted)
	}
	for _, r := range g.Readings {
		before, _ := impl.HeightOf(g, r.Time)
		if height, ok := impl.HeightOf(shifted, r.Time); !ok || height != before {
			t.Fatal(g, to, r, height, ok)
		}
	}
	low, high, _ := impl.RangeOf(g)
	if x, y, ok := impl.RangeOf(shifted); ok != (len(g.Readings) > 0) || x != low || y != high {
		t.Fatal(g, to, x, y, ok)
	}
	if back, ok := impl.ShiftZero(shifted, g.Zero); !ok || !sameGauge(back, g) {
		t.Fatal(g, to, back, ok)
	}
}

func TestP3CommonTimes(t *testing.T) {
	list := []impl.Gauge{
		{Id: 3, Name: "pier", Readings: readingsOf(0, 1, 10, 1, 20, 1, 30, 1, impl.MaxTime, 1)},
		{Id: 5, Name: "mole", Readings: readingsOf(0, 2, 9, 2, 20, 2, 31, 2, impl.MaxTime, 2)},
		{Id: 6, Name: "quay", Readings: readingsOf(10, 3, 30, 3, 40, 3)},
		{Id: 8, Name: "dock"},
		{Id: 99, Name: "lock", Readings: readingsOf(9, 4, 10, 4)},
	}
	for _, c := range []struct {
		a, b int
		want []int
	}{
		{3, 5, []int{0, 20, impl.MaxTime}}, {3, 6, []int{10, 30}}, {3, 8, nil}, {3, 99, []int{10}},
		{5, 6, nil}, {5, 8, nil}, {5, 99, []int{9}}, {6, 8, nil}, {6, 99, []int{10}}, {8, 99, nil},
	} {
		for _, pair := range [][2]int{{c.a, c.b}, {c.b, c.a}} {
			if got, ok := impl.CommonTimes(list, pair[0], pair[1]); !ok || !slices.Equal(got, c.want) {
				t.Error(pair, got, ok)
			}
		}
	}
	same := manyReadings(impl.MaxReadings)
	full := []impl.Gauge{{Id: 1, Name: "a", Readings: same}, {Id: 2, Name: "b", Readings: same}}
	if got, ok := impl.CommonTimes(full, 1, 2); !ok || len(got) != impl.MaxReadings || !slices.IsSorted(got) {
		t.Error("the most", got, ok)
	}
	if got, ok := impl.CommonTimes(manyGauges(impl.MaxGauges), 6, 5); !ok || !slices.Equal(got, []int{0, 10, 20, 30}) {
		t.Error("the most Gauges", got, ok)
	}
}

func TestP3TwoGaugesAreRefused(t *testing.T) {
	refuse := func(list []impl.Gauge, a, b int) {
		t.Helper()
		if got, ok := impl.CommonTimes(list, a, b); ok || len(got) != 0 {
			t.Error("CommonTimes", list, a, b, got, ok)
		}
		if num, den, ok := impl.ZeroError(list, a, b); ok || num != 0 || den != 0 {
			t.Error("ZeroError", list, a, b, num, den, ok)
		}
	}
	same := manyReadings(4)
	list := []impl.Gauge{{Id: 2, Name: "a", Readings: same}, {Id: 4, Name: "b", Readings: same}, {Id: 9, Name: "c", Readings: same}}
	// The same Gauge twice, and Ids that are not in the list.
	for _, id := range []int{math.MinInt, -1, 0, 1, 3, 5, 8, 10, 99, 100, math.MaxInt} {
		for _, there := range []int{2, 4, 9} {
			refuse(list, id, there)
			refuse(list, there, id)
		}
		refuse(list, id, id)
		refuse(nil, id, 2)
	}
	for _, id := range []int{2, 4, 9} {
		refuse(list, id, id)
	}
	refuse(nil, 2, 4)
	refuse(nil, 0, 0)
	// Lists that are not valid, though the two Gauges are.
	refuse([]impl.Gauge{list[1], list[0]}, 2, 4)
	refuse([]impl.Gauge{list[0], list[1], list[1]}, 2, 4)
	refuse([]impl.Gauge{list[0], list[1], {Id: 9, Name: "a"}}, 2, 4)
	refuse(manyGauges(impl.MaxGauges+1), 5, 6)
	for _, g := range wrongGauges() {
		refuse([]impl.Gauge{list[0], list[1], g}, 2, 4)
		refuse([]impl.Gauge{list[0], g}, 2, g.Id)
		refuse([]impl.Gauge{g, {Id: 99, Name: "c", Readings: same}}, g.Id, 99)
	}
}

func TestP3ZeroError(t *testing.T) {
	for _, c := range []struct {
		a, b     impl.Gauge
		num, den int
	}{
		{gaugeOf(0, 1, 5), gaugeOf(0, 1, 5), 0, 1},
		{gaugeOf(0, 1, 5), gaugeOf(0, 1, 8), 3, 1},
		{gaugeOf(0, 1, 8), gaugeOf(0, 1, 5), -3, 1},
		// Heights count, not Levels.
		{gaugeOf(10, 1, 5), gaugeOf(-10, 1, 5), -20, 1},
		{gaugeOf(10, 1, 5), gaugeOf(7, 1, 8), 0, 1},
		{gaugeOf(-1000, 1, -500), gaugeOf(1000, 1, 2000), 4500, 1},
		{gaugeOf(1000, 1, 2000), gaugeOf(-1000, 1, -500), -4500, 1},
		// Only common times count.
		{gaugeOf(0, 1, 5, 2, 900), gaugeOf(0, 0, 900, 1, 6, 3, 900), 1, 1},
		{gaugeOf(0, 1, 5, 2, 6), gaugeOf(0, 1, 6, 2, 8), 3, 2},
		{gaugeOf(0, 1, 6, 2, 8), gaugeOf(0, 1, 5, 2, 6), -3, 2},
		{gaugeOf(0, 1, 5, 2, 6), gaugeOf(0, 1, 6, 2, 9), 2, 1},
		{gaugeOf(0, 1, 5, 2, 6), gaugeOf(0, 1, 6, 2, 5), 0, 1},
		{gaugeOf(0, 1, 0, 2, 0, 3, 0), gaugeOf(0, 1, 1, 2, 0, 3, 0), 1, 3},
		{gaugeOf(0, 1, 0, 2, 0, 3, 0), gaugeOf(0, 1, 1, 2, 2, 3, -7), -4, 3},
		{gaugeOf(0, 1, 0, 2, 0, 3, 0, 4, 0), gaugeOf(0, 1, 1, 2, 1, 3, 0, 4, 0), 1, 2},
		{gaugeOf(0, 1, 0, 2, 0, 3, 0, 4, 0), gaugeOf(0, 1, -1, 2, -1, 3, 0, 4, -4), -3, 2},
		{gaugeOf(0, 1, 0, 2, 0, 3, 0, 4, 0), gaugeOf(0, 1, -1, 2, -1, 3, 0, 4, -5), -7, 4},
		{gaugeOf(0, 1, 0, 2, 0, 3, 0, 4, 0, 5, 0, 6, 0), gaugeOf(0, 1, 4, 2, 0, 3, 0, 4, 0, 5, 0, 6, 0), 2, 3},
	} {
		a, b := c.a, c.b
		a.Id, a.Name = 4, "mole"
		list := []impl.Gauge{{Id: 1, Name: "lock", Zero: 500, Readings: manyReadings(9)}, a, b}
		if num, den, ok := impl.ZeroError(list, 4, 7); !ok || num != c.num || den != c.den {
			t.Error(c.a, c.b, num, den, ok)
		}
		if num, den, ok := impl.ZeroError(list, 7, 4); !ok || num != -c.num || den != c.den {
			t.Error("the other way", c.a, c.b, num, den, ok)
		}
	}
}

func TestP3NoZeroErrorWithoutCommonTimes(t *testing.T) {
	for _, c := range []struct{ a, b []impl.Reading }{
		{nil, nil}, {nil, readingsOf(1, 5)}, {readingsOf(1, 5), readingsOf(2, 5)}, {readingsOf(1, 5, 3, 5), readingsOf(0, 5, 2, 5, 4, 5)},
	} {
		list := []impl.Gauge{{Id: 1, Name: "pier", Readings: c.a}, {Id: 2, Name: "mole", Readings: c.b}}
		for _, pair := range [][2]int{{1, 2}, {2, 1}} {
			if num, den, ok := impl.ZeroError(list, pair[0], pair[1]); ok || num != 0 || den != 0 {
				t.Error(list, pair, num, den, ok)
			}
			if times, ok := impl.CommonTimes(list, pair[0], pair[1]); !ok || len(times) != 0 {
				t.Error(list, pair, times, ok)
			}
		}
	}
}

func TestP3ErrorsOfTheZeroHaveOppositeSigns(t *testing.T) {
	// Gauges whose Levels and Times follow short rules that differ from each other.
	list := []impl.Gauge{}
	for id := 1; id <= impl.MaxGauges; id++ {
		g := impl.Gauge{Id: id * 7, Name: strings.Repeat("g", id), Zero: 331*id - 1000}
		for i := range impl.MaxReadings {
			g.Readings = append(g.Readings, impl.Reading{Time: i * (1 + id%3) * 6, Level: (i*i*41+id*577)%2400 - 450})
		}
		list = append(list, g)
	}
	for _, a := range list {
		for _, b := range list {
			if a.Id == b.Id {
				continue
			}
			num, den, ok := impl.ZeroError(list, a.Id, b.Id)
			back, over, fine := impl.ZeroError(list, b.Id, a.Id)
			if !ok || !fine || back != -num || over != den {
				t.Error(a.Id, b.Id, num, den, back, over)
			}
			sum, count := 0, 0
			for _, r := range a.Readings {
				if height, ok := impl.HeightOf(b, r.Time); ok {
					sum, count = sum+height-r.Level-a.Zero, count+1
				}
			}
			if den < 1 || num*count != sum*den || commonDivisor(num, den) != 1 {
				t.Error(a.Id, b.Id, num, den, sum, count)
			}
		}
	}
}

// commonDivisor is the greatest number that divides both.
func commonDivisor(a, b int) int {
	greatest := 1
	for n := 2; n <= max(a, -a, b, -b); n++ {
		if a%n == 0 && b%n == 0 {
			greatest = n
		}
	}
	return greatest
}

func TestP3AShiftedZeroLeavesItsError(t *testing.T) {
	a := impl.Gauge{Id: 1, Name: "pier", Zero: -20, Readings: readingsOf(0, 100, 10, 140, 20, 90)}
	b := impl.Gauge{Id: 2, Name: "mole", Zero: 35, Readings: readingsOf(0, 50, 10, 88, 30, 7)}
	num, den, _ := impl.ZeroError([]impl.Gauge{a, b}, 1, 2)
	for to := -300; to <= 300; to += 50 {
		shifted, ok := impl.ShiftZero(b, to)
		x, y, fine := impl.ZeroError([]impl.Gauge{a, shifted}, 1, 2)
		if !ok || !fine || x != num || y != den {
			t.Error(to, x, y, num, den)
		}
	}
}

func TestP29GaugeFunctionsLeaveTheirArguments(t *testing.T) {
	// What lies behind the length of the Readings is neither read nor written.
	whole := readingsOf(0, 10, 10, 30, 20, 20, 30, 25, 3, 9000, -1, 7)
	before := slices.Clone(whole)
	for size := range len(whole) + 1 {
		g := impl.Gauge{Id: 7, Name: "pier", Zero: 5, Readings: whole[:size]}
		valid := size <= 4
		if impl.IsGauge(g) != valid {
			t.Error("IsGauge", size)
		}
		for _, r := range readingsOf(0, 77, 5, 77, 15, 77, 20, 77, 31, 77) {
			if got, ok := impl.AddReading(g, r); ok != valid || !valid && !isNoGauge(got) {
				t.Error("AddReading", size, r, got, ok)
			}
		}
		if _, ok := impl.HeightOf(g, 20); ok != (valid && size > 2) {
			t.Error("HeightOf", size)
		}
		if gaps, ok := impl.GapsOf(g, 5); ok != valid || valid && len(gaps) != max(0, size-1) {
			t.Error("GapsOf", size, gaps)
		}
		if high, ok := impl.HighWaters(g); ok != valid || len(high) != 0 && (!valid || size < 3) {
			t.Error("HighWaters", size, high)
		}
		if _, _, ok := impl.RangeOf(g); ok != (valid && size > 0) {
			t.Error("RangeOf", size)
		}
		if shifted, ok := impl.ShiftZero(g, 8); ok != valid || valid && len(shifted.Readings) != size {
			t.Error("ShiftZero", size, shifted)
		}
	}
	if !slices.Equal(whole, before) {
		t.Error("the Readings are now", whole)
	}
}

func TestP29GaugeListsStayAsTheyWere(t *testing.T) {
	whole := manyGauges(impl.MaxGauges + 3)
	whole[4] = impl.Gauge{Id: 1, Name: "A"}
	before := []impl.Gauge{}
	for _, g := range whole {
		before = append(before, copyOf(g))
	}
	for size := range len(whole) + 1 {
		list := whole[:size]
		if impl.AreGauges(list) != (size <= 4) {
			t.Error("AreGauges", size)
		}
		if times, ok := impl.CommonTimes(list, 4, 3); ok != (size == 4) || ok && !slices.Equal(times, []int{0, 10}) {
			t.Error("CommonTimes", size, times)
		}
		if _, _, ok := impl.ZeroError(list, 4, 3); ok != (size == 4) {
			t.Error("ZeroError", size)
		}
	}
	if !slices.EqualFunc(whole, before, sameGauge) {
		t.Error("the list is now", whole)
	}
}

func TestP29GaugeResultsShareNothing(t *testing.T) {
	g := gaugeOf(5, 0, 10, 10, 30, 20, 20, 40, 90, 50, 1)
	before := copyOf(g)
	added, _ := impl.AddReading(g, impl.Reading{Time: 15, Level: 7})
	replaced, _ := impl.AddReading(g, impl.Reading{Time: 10, Level: 7})
	behind, _ := impl.AddReading(g, impl.Reading{Time: 60, Level: 7})
	shifted, _ := impl.ShiftZero(g, 5)
	high, _ := impl.HighWaters(g)
	for _, readings := range [][]impl.Reading{added.Readings, replaced.Readings, behind.Readings, shifted.Readings, high} {
		if len(readings) == 0 {
			t.Fatal("no Readings")
		}
		for i := range readings {
			readings[i] = impl.Reading{Time: -7, Level: -7}
		}
		_ = append(readings[:1], impl.Reading{Time: -8})
	}
	gaps, _ := impl.GapsOf(g, 5)
	gaps[0][0], gaps[0][1] = -7, -7
	_ = append(gaps[0], -8)
	if want := [][]int{{10, 20}, {20, 40}, {40, 50}}; !slices.EqualFunc(gaps[1:], want, slices.Equal) {
		t.Error("the gaps are now", gaps)
	}
	list := []impl.Gauge{g, {Id: 9, Name: "mole", Readings: readingsOf(0, 1, 10, 1)}}
	times, _ := impl.CommonTimes(list, 7, 9)
	times[0], times[1] = -7, -7
	if again, ok := impl.CommonTimes(list, 7, 9); !ok || !slices.Equal(again, []int{0, 10}) {
		t.Error("the common times are now", again)
	}
	if !sameGauge(g, before) {
		t.Error("the Gauge is now", g)
	}
}

func TestP29AddedReadingsHaveTheirOwnRoom(t *testing.T) {
	// Readings with room behind them: two additions must not meet there.
	room := make([]impl.Reading, 2, impl.MaxReadings)
	copy(room, readingsOf(0, 1, 10, 2))
	g := impl.Gauge{Id: 7, Name: "pier", Readings: room}
	first, _ := impl.AddReading(g, impl.Reading{Time: 20, Level: 3})
	second, _ := impl.AddReading(g, impl.Reading{Time: 30, Level: 4})
	third, _ := impl.AddReading(first, impl.Reading{Time: 40, Level: 5})
	fourth, _ := impl.AddReading(first, impl.Reading{Time: 5, Level: 6})
	for _, c := range []struct {
		g    impl.Gauge
		want []impl.Reading
	}{
		{g, readingsOf(0, 1, 10, 2)}, {first, readingsOf(0, 1, 10, 2, 20, 3)}, {second, readingsOf(0, 1, 10, 2, 30, 4)},
		{third, readingsOf(0, 1, 10, 2, 20, 3, 40, 5)}, {fourth, readingsOf(0, 1, 5, 6, 10, 2, 20, 3)},
	} {
		if !slices.Equal(c.g.Readings, c.want) {
			t.Error(c.g.Readings, c.want)
		}
	}
	if behind := room[:impl.MaxReadings]; !slices.Equal(behind[2:], make([]impl.Reading, impl.MaxReadings-2)) {
		t.Error("written behind the length", behind)
	}
}

func TestP29GaugeFunctionsReturnForAllArguments(t *testing.T) {
	numbers := []int{math.MinInt, -1001, -1000, -500, -1, 0, 1, 99, 100, 1000, 2000, impl.MaxTime, impl.MaxTime + 1, math.MaxInt}
	for _, a := range numbers {
		for _, b := range numbers {
			for _, c := range numbers {
				g := impl.Gauge{Id: a, Name: "pier", Zero: b, Readings: readingsOf(c, a, b, c)}
				h := impl.Gauge{Id: 7, Name: "mole", Zero: a, Readings: readingsOf(b, c)}
				for _, one := range []impl.Gauge{g, h} {
					valid := impl.IsGauge(one)
					added, ok := impl.AddReading(one, impl.Reading{Time: c, Level: b})
					shifted, fine := impl.ShiftZero(one, c)
					if ok && (!valid || !impl.IsGauge(added)) || !ok && !isNoGauge(added) ||
						fine && (!valid || !impl.IsGauge(shifted)) || !fine && !isNoGauge(shifted) {
						t.Error(one, added, ok, shifted, fine)
					}
					_, gapped := impl.GapsOf(one, c)
					_, risen := impl.HighWaters(one)
					_, _, ranged := impl.RangeOf(one)
					if gapped != (valid && 1 <= c && c <= 10000) || risen != valid || ranged != valid {
						t.Error(one, c, gapped, risen, ranged)
					}
					if n, ok := impl.HeightOf(one, c); !ok && n != 0 || ok && !valid {
						t.Error(one, c, n, ok)
					}
				}
				list := []impl.Gauge{g, h}
				times, ok := impl.CommonTimes(list, a, c)
				num, den, fine := impl.ZeroError(list, a, c)
				if ok && !impl.AreGauges(list) || !ok && len(times) != 0 || !fine && (num != 0 || den != 0) || fine && den < 1 {
					t.Error(list, a, c, times, num, den)
				}
			}
		}
	}
}
