package tests

import (
	"math"
	"slices"
	"testing"

	"loop.example/g01031/impl"
)

// wrongSpots are beyond a limit, by one or by far.
var wrongSpots = []impl.Spot{
	{X: -1, Y: 5}, {X: impl.MaxGrid + 1, Y: 5}, {X: 5, Y: -1}, {X: 5, Y: impl.MaxGrid + 1},
	{X: math.MinInt, Y: 0}, {X: math.MaxInt, Y: 0}, {X: 0, Y: math.MinInt}, {X: 0, Y: math.MaxInt},
	{X: -1, Y: -1}, {X: math.MinInt, Y: math.MaxInt},
}

// wrongBoxes are beyond a limit or end before they begin.
var wrongBoxes = []impl.Box{
	{West: -1, South: 0, East: 5, North: 5}, {West: 0, South: -1, East: 5, North: 5},
	{West: 0, South: 0, East: impl.MaxGrid + 1, North: 5}, {West: 0, South: 0, East: 5, North: impl.MaxGrid + 1},
	{West: 6, South: 0, East: 5, North: 5}, {West: 0, South: 6, East: 5, North: 5},
	{West: 1}, {South: 1}, {East: -1}, {North: -1}, {West: -5, South: -5, East: -1, North: -1},
	{West: 1001, South: 1001, East: 1002, North: 1002},
	{West: math.MinInt, South: 0, East: math.MaxInt, North: 5},
	{West: 0, South: math.MinInt, East: 5, North: math.MaxInt},
	{West: math.MaxInt, South: math.MaxInt, East: math.MinInt, North: math.MinInt},
}

// spotsOf makes Spots of pairs of numbers.
func spotsOf(numbers ...int) []impl.Spot {
	list := []impl.Spot{}
	for i := 0; i+1 < len(numbers); i += 2 {
		list = append(list, impl.Spot{X: numbers[i], Y: numbers[i+1]})
	}
	return list
}

// wrongSpotLists are too long by one or have a wrong Spot at the front, within or at the end.
func wrongSpotLists() [][]impl.Spot {
	lists := [][]impl.Spot{make([]impl.Spot, impl.MaxSpots+1), make([]impl.Spot, 100)}
	for _, p := range wrongSpots {
		lists = append(lists, []impl.Spot{p}, []impl.Spot{p, {X: 1, Y: 1}},
			[]impl.Spot{{X: 1, Y: 1}, p, {X: 2, Y: 2}}, append(make([]impl.Spot, impl.MaxSpots-1), p))
	}
	return lists
}

// gridBoxes are all Boxes with sides at a few places.
func gridBoxes() []impl.Box {
	places := []int{0, 1, 7, impl.MaxGrid - 1, impl.MaxGrid}
	boxes := []impl.Box{}
	for i, west := range places {
		for _, east := range places[i:] {
			for j, south := range places {
				for _, north := range places[j:] {
					boxes = append(boxes, impl.Box{West: west, South: south, East: east, North: north})
				}
			}
		}
	}
	return boxes
}

// liesIn tells, by the document's words, whether a point is in a Box.
func liesIn(p impl.Spot, b impl.Box) bool {
	return b.West <= p.X && p.X <= b.East && b.South <= p.Y && p.Y <= b.North
}

func TestP2IsSpot(t *testing.T) {
	for _, x := range []int{0, 1, 500, impl.MaxGrid - 1, impl.MaxGrid} {
		for _, y := range []int{0, 1, 500, impl.MaxGrid - 1, impl.MaxGrid} {
			if !impl.IsSpot(impl.Spot{X: x, Y: y}) {
				t.Error("not valid", x, y)
			}
		}
	}
	for _, p := range wrongSpots {
		if impl.IsSpot(p) {
			t.Error("valid", p)
		}
	}
}

func TestP2AreSpots(t *testing.T) {
	for _, list := range [][]impl.Spot{
		nil, {}, {{}}, {{X: 3, Y: 4}, {X: 3, Y: 4}}, {{X: 1000, Y: 1000}, {X: 0, Y: 1000}, {X: 1000, Y: 0}},
		make([]impl.Spot, impl.MaxSpots),
	} {
		if !impl.AreSpots(list) {
			t.Error("not valid", list)
		}
	}
	for _, list := range wrongSpotLists() {
		if impl.AreSpots(list) {
			t.Error("valid", list)
		}
	}
}

func TestP2SquareBetween(t *testing.T) {
	for _, c := range []struct {
		a, b impl.Spot
		want int
	}{
		{impl.Spot{}, impl.Spot{}, 0},
		{impl.Spot{X: 7, Y: 9}, impl.Spot{X: 7, Y: 9}, 0},
		{impl.Spot{X: 7, Y: 9}, impl.Spot{X: 8, Y: 9}, 1},
		{impl.Spot{X: 7, Y: 9}, impl.Spot{X: 7, Y: 8}, 1},
		{impl.Spot{X: 10, Y: 10}, impl.Spot{X: 13, Y: 14}, 25},
		{impl.Spot{X: 10, Y: 10}, impl.Spot{X: 6, Y: 13}, 25},
		{impl.Spot{X: 2, Y: 500}, impl.Spot{X: 1, Y: 100}, 160001},
		{impl.Spot{X: 0, Y: 0}, impl.Spot{X: 1000, Y: 0}, 1000000},
		{impl.Spot{X: 0, Y: 0}, impl.Spot{X: 1000, Y: 1000}, 2000000},
		{impl.Spot{X: 1000, Y: 0}, impl.Spot{X: 0, Y: 1000}, 2000000},
	} {
		for _, ends := range [][2]impl.Spot{{c.a, c.b}, {c.b, c.a}} {
			if n, ok := impl.SquareBetween(ends[0], ends[1]); !ok || n != c.want {
				t.Error(ends, n, ok)
			}
		}
	}
}

func TestP2TwoSpotsAreRefused(t *testing.T) {
	good := impl.Spot{X: 5, Y: 5}
	for _, p := range wrongSpots {
		for _, ends := range [][2]impl.Spot{{p, good}, {good, p}, {p, p}} {
			if n, ok := impl.SquareBetween(ends[0], ends[1]); ok || n != 0 {
				t.Error("SquareBetween", ends, n, ok)
			}
			if n, ok := impl.LengthBetween(ends[0], ends[1]); ok || n != 0 {
				t.Error("LengthBetween", ends, n, ok)
			}
		}
	}
}

func TestP2NearestSpot(t *testing.T) {
	for _, c := range []struct {
		list []impl.Spot
		p    impl.Spot
		want int
	}{
		{spotsOf(1000, 1000), impl.Spot{}, 0},
		{spotsOf(0, 0, 10, 0), impl.Spot{X: 4}, 0},
		{spotsOf(0, 0, 10, 0), impl.Spot{X: 6}, 1},
		{spotsOf(9, 9, 1, 1, 5, 5), impl.Spot{X: 5, Y: 5}, 2},
		// By the square 3 and 3 are nearer than 5 and 0, though their sum is greater.
		{spotsOf(5, 0, 3, 3), impl.Spot{}, 1},
		{spotsOf(0, 6, 5, 3), impl.Spot{}, 1},
		// Equal distances: the first one.
		{spotsOf(0, 0, 10, 0), impl.Spot{X: 5}, 0},
		{spotsOf(10, 0, 0, 0), impl.Spot{X: 5}, 0},
		{spotsOf(50, 50, 5, 0, 3, 4, 4, 3, 0, 5), impl.Spot{}, 1},
		{spotsOf(50, 50, 7, 7, 2, 2, 7, 7, 2, 2), impl.Spot{X: 2, Y: 2}, 2},
		{spotsOf(4, 4, 4, 4, 4, 4), impl.Spot{X: 4, Y: 5}, 0},
		{spotsOf(0, 0, 0, 0, 0, 0, 0, 0, 0, 0, 0, 0, 0, 0, 0, 0, 0, 0, 0, 0, 0, 0, 1, 0), impl.Spot{X: 1000, Y: 1000}, 11},
	} {
		if i, ok := impl.NearestSpot(c.list, c.p); !ok || i != c.want {
			t.Error(c.list, c.p, i, ok)
		}
	}
}

func TestP2NearestSpotRefuses(t *testing.T) {
	good := impl.Spot{X: 5, Y: 5}
	for _, list := range append(wrongSpotLists(), nil, []impl.Spot{}) {
		if i, ok := impl.NearestSpot(list, good); ok || i != 0 {
			t.Error(list, i, ok)
		}
	}
	for _, p := range wrongSpots {
		for _, list := range [][]impl.Spot{nil, {good}, {{}, good, {X: 1000, Y: 1000}}} {
			if i, ok := impl.NearestSpot(list, p); ok || i != 0 {
				t.Error(list, p, i, ok)
			}
		}
	}
}

func TestP2BoxOf(t *testing.T) {
	for _, c := range []struct {
		list []impl.Spot
		want impl.Box
	}{
		{spotsOf(0, 0), impl.Box{}},
		{spotsOf(7, 9), impl.Box{West: 7, South: 9, East: 7, North: 9}},
		{spotsOf(7, 9, 7, 9), impl.Box{West: 7, South: 9, East: 7, North: 9}},
		{spotsOf(7, 9, 3, 9), impl.Box{West: 3, South: 9, East: 7, North: 9}},
		{spotsOf(7, 2, 7, 9), impl.Box{West: 7, South: 2, East: 7, North: 9}},
		{spotsOf(7, 9, 3, 12), impl.Box{West: 3, South: 9, East: 7, North: 12}},
		{spotsOf(5, 1, 9, 5, 5, 9, 1, 5), impl.Box{West: 1, South: 1, East: 9, North: 9}},
		{spotsOf(1000, 1000, 0, 0), impl.Box{East: 1000, North: 1000}},
		{spotsOf(500, 500, 400, 600, 450, 550, 1000, 1000), impl.Box{West: 400, South: 500, East: 1000, North: 1000}},
	} {
		if b, ok := impl.BoxOf(c.list); !ok || b != c.want || !impl.IsBox(b) {
			t.Error(c.list, b, ok)
		}
	}
	for _, list := range append(wrongSpotLists(), nil, []impl.Spot{}) {
		if b, ok := impl.BoxOf(list); ok || b != (impl.Box{}) {
			t.Error("a box of", list, b, ok)
		}
	}
}

func TestP2BoxOfAFullList(t *testing.T) {
	list := make([]impl.Spot, impl.MaxSpots)
	for i := range list {
		list[i] = impl.Spot{X: 100 + i*i, Y: 900 - 7*i}
	}
	want := impl.Box{West: 100, South: 900 - 7*(impl.MaxSpots-1), East: 100 + (impl.MaxSpots-1)*(impl.MaxSpots-1), North: 900}
	if b, ok := impl.BoxOf(list); !ok || b != want {
		t.Error(b, ok)
	}
	if b, ok := impl.BoxOf(append(list, impl.Spot{X: 1, Y: 1})); ok || b != (impl.Box{}) {
		t.Error("one Spot too many", b, ok)
	}
}

func TestP2IsBox(t *testing.T) {
	for _, b := range gridBoxes() {
		if !impl.IsBox(b) {
			t.Error("not valid", b)
		}
	}
	for _, b := range wrongBoxes {
		if impl.IsBox(b) {
			t.Error("valid", b)
		}
	}
}

func TestP2SharedBox(t *testing.T) {
	a := impl.Box{West: 10, South: 10, East: 20, North: 20}
	for _, c := range []struct{ b, want impl.Box }{
		{a, a},
		{impl.Box{West: 15, South: 16, East: 30, North: 31}, impl.Box{West: 15, South: 16, East: 20, North: 20}},
		{impl.Box{West: 0, South: 1, East: 12, North: 13}, impl.Box{West: 10, South: 10, East: 12, North: 13}},
		{impl.Box{West: 12, South: 13, East: 14, North: 15}, impl.Box{West: 12, South: 13, East: 14, North: 15}},
		{impl.Box{East: 1000, North: 1000}, a},
		{impl.Box{West: 12, South: 0, East: 14, North: 1000}, impl.Box{West: 12, South: 10, East: 14, North: 20}},
		// A shared edge on each side.
		{impl.Box{West: 20, South: 12, East: 30, North: 14}, impl.Box{West: 20, South: 12, East: 20, North: 14}},
		{impl.Box{West: 0, South: 12, East: 10, North: 14}, impl.Box{West: 10, South: 12, East: 10, North: 14}},
		{impl.Box{West: 12, South: 20, East: 14, North: 30}, impl.Box{West: 12, South: 20, East: 14, North: 20}},
		{impl.Box{West: 12, South: 0, East: 14, North: 10}, impl.Box{West: 12, South: 10, East: 14, North: 10}},
		{impl.Box{West: 20, South: 10, East: 30, North: 20}, impl.Box{West: 20, South: 10, East: 20, North: 20}},
		// A shared corner on each side.
		{impl.Box{West: 20, South: 20, East: 30, North: 30}, impl.Box{West: 20, South: 20, East: 20, North: 20}},
		{impl.Box{West: 0, South: 0, East: 10, North: 10}, impl.Box{West: 10, South: 10, East: 10, North: 10}},
		{impl.Box{West: 0, South: 20, East: 10, North: 30}, impl.Box{West: 10, South: 20, East: 10, North: 20}},
		{impl.Box{West: 20, South: 0, East: 30, North: 10}, impl.Box{West: 20, South: 10, East: 20, North: 10}},
		// A Box of one point within, on the edge and at the corner.
		{impl.Box{West: 15, South: 15, East: 15, North: 15}, impl.Box{West: 15, South: 15, East: 15, North: 15}},
		{impl.Box{West: 10, South: 15, East: 10, North: 15}, impl.Box{West: 10, South: 15, East: 10, North: 15}},
		{impl.Box{West: 20, South: 20, East: 20, North: 20}, impl.Box{West: 20, South: 20, East: 20, North: 20}},
	} {
		for _, pair := range [][2]impl.Box{{a, c.b}, {c.b, a}} {
			if got, ok := impl.SharedBox(pair[0], pair[1]); !ok || got != c.want {
				t.Error(pair, got, ok)
			}
		}
	}
}

func TestP2BoxesApartShareNothing(t *testing.T) {
	a := impl.Box{West: 10, South: 10, East: 20, North: 20}
	for _, b := range []impl.Box{
		{West: 21, South: 12, East: 30, North: 14}, {West: 0, South: 12, East: 9, North: 14},
		{West: 12, South: 21, East: 14, North: 30}, {West: 12, South: 0, East: 14, North: 9},
		{West: 21, South: 20, East: 30, North: 30}, {West: 20, South: 21, East: 30, North: 30},
		{West: 21, South: 21, East: 30, North: 30}, {West: 0, South: 0, East: 9, North: 10},
		{West: 21, South: 15, East: 21, North: 15}, {West: 15, South: 9, East: 15, North: 9},
		{}, {West: 1000, South: 1000, East: 1000, North: 1000},
	} {
		for _, pair := range [][2]impl.Box{{a, b}, {b, a}} {
			if got, ok := impl.SharedBox(pair[0], pair[1]); ok || got != (impl.Box{}) {
				t.Error(pair, got, ok)
			}
		}
	}
}

func TestP2SharedBoxRefusesWrongBoxes(t *testing.T) {
	all := impl.Box{East: impl.MaxGrid, North: impl.MaxGrid}
	for _, b := range wrongBoxes {
		for _, pair := range [][2]impl.Box{{all, b}, {b, all}, {b, b}, {b, {}}, {{}, b}} {
			if got, ok := impl.SharedBox(pair[0], pair[1]); ok || got != (impl.Box{}) {
				t.Error(pair, got, ok)
			}
		}
	}
}

func TestP2ASharedBoxLiesWithinBoth(t *testing.T) {
	boxes := gridBoxes()
	for _, a := range boxes {
		for _, b := range boxes {
			// Two Boxes share a point if they share one at the greatest West and South.
			start := impl.Spot{X: max(a.West, b.West), Y: max(a.South, b.South)}
			shared, ok := impl.SharedBox(a, b)
			if ok != (liesIn(start, a) && liesIn(start, b)) {
				t.Fatal(a, b, shared, ok)
			}
			if !ok {
				continue
			}
			end := impl.Spot{X: shared.East, Y: shared.North}
			if !impl.IsBox(shared) || start != (impl.Spot{X: shared.West, Y: shared.South}) ||
				!liesIn(end, a) || !liesIn(end, b) {
				t.Fatal(a, b, shared)
			}
			// One meter further to the east or north would leave one of them.
			further := []impl.Spot{{X: end.X + 1, Y: end.Y}, {X: end.X, Y: end.Y + 1}}
			if slices.ContainsFunc(further, func(p impl.Spot) bool { return liesIn(p, a) && liesIn(p, b) }) {
				t.Fatal(a, b, shared)
			}
		}
	}
}

func TestP2SpotsIn(t *testing.T) {
	b := impl.Box{West: 10, South: 20, East: 30, North: 40}
	for _, c := range []struct {
		list []impl.Spot
		box  impl.Box
		want []int
	}{
		{nil, b, nil},
		{spotsOf(), b, nil},
		{spotsOf(15, 30), b, []int{0}},
		// Edges and corners belong to the Box.
		{spotsOf(10, 30, 30, 30, 15, 20, 15, 40), b, []int{0, 1, 2, 3}},
		{spotsOf(10, 20, 30, 40, 10, 40, 30, 20), b, []int{0, 1, 2, 3}},
		{spotsOf(9, 30, 31, 30, 15, 19, 15, 41), b, nil},
		{spotsOf(9, 20, 10, 19, 31, 40, 30, 41), b, nil},
		{spotsOf(0, 0, 15, 30, 1000, 1000, 15, 30, 30, 15, 10, 20), b, []int{1, 3, 5}},
		{spotsOf(6, 5, 5, 5, 5, 6, 5, 5), impl.Box{West: 5, South: 5, East: 5, North: 5}, []int{1, 3}},
		{spotsOf(0, 0, 0, 1), impl.Box{}, []int{0}},
		{make([]impl.Spot, impl.MaxSpots), impl.Box{East: 1000, North: 1000}, []int{0, 1, 2, 3, 4, 5, 6, 7, 8, 9, 10, 11}},
	} {
		if got, ok := impl.SpotsIn(c.list, c.box); !ok || !slices.Equal(got, c.want) {
			t.Error(c.list, c.box, got, ok)
		}
	}
}

func TestP2SpotsInRefuses(t *testing.T) {
	all := impl.Box{East: impl.MaxGrid, North: impl.MaxGrid}
	for _, list := range wrongSpotLists() {
		if got, ok := impl.SpotsIn(list, all); ok || len(got) != 0 {
			t.Error(list, got, ok)
		}
	}
	for _, b := range wrongBoxes {
		for _, list := range [][]impl.Spot{nil, spotsOf(0, 0, 5, 5), spotsOf(1000, 1000)} {
			if got, ok := impl.SpotsIn(list, b); ok || len(got) != 0 {
				t.Error(list, b, got, ok)
			}
		}
	}
}

func TestP2SpotsInItsOwnBoxAreAll(t *testing.T) {
	list := spotsOf(3, 9, 7, 1, 3, 1, 5, 5, 0, 8, 9, 4)
	b, _ := impl.BoxOf(list)
	if got, ok := impl.SpotsIn(list, b); !ok || !slices.Equal(got, []int{0, 1, 2, 3, 4, 5}) {
		t.Error(got, ok)
	}
	for _, smaller := range []impl.Box{
		{West: b.West + 1, South: b.South, East: b.East, North: b.North},
		{West: b.West, South: b.South + 1, East: b.East, North: b.North},
		{West: b.West, South: b.South, East: b.East - 1, North: b.North},
		{West: b.West, South: b.South, East: b.East, North: b.North - 1},
	} {
		if got, ok := impl.SpotsIn(list, smaller); !ok || len(got) == len(list) {
			t.Error("the Box is not the smallest one", smaller, got, ok)
		}
	}
}

func TestP2TurnOf(t *testing.T) {
	for _, c := range []struct {
		a, b, c impl.Spot
		want    int
	}{
		{impl.Spot{X: 5, Y: 5}, impl.Spot{X: 9, Y: 5}, impl.Spot{X: 9, Y: 9}, 1},
		{impl.Spot{X: 5, Y: 5}, impl.Spot{X: 9, Y: 5}, impl.Spot{X: 9, Y: 1}, -1},
		{impl.Spot{X: 5, Y: 5}, impl.Spot{X: 5, Y: 9}, impl.Spot{X: 1, Y: 9}, 1},
		{impl.Spot{X: 5, Y: 5}, impl.Spot{X: 5, Y: 9}, impl.Spot{X: 9, Y: 9}, -1},
		// A way that nearly comes back.
		{impl.Spot{X: 5, Y: 5}, impl.Spot{X: 9, Y: 5}, impl.Spot{X: 1, Y: 6}, 1},
		{impl.Spot{X: 5, Y: 5}, impl.Spot{X: 9, Y: 5}, impl.Spot{X: 1, Y: 4}, -1},
		// On a line: on, back, and with Spots at one place.
		{impl.Spot{X: 1, Y: 2}, impl.Spot{X: 3, Y: 5}, impl.Spot{X: 5, Y: 8}, 0},
		{impl.Spot{X: 1, Y: 2}, impl.Spot{X: 5, Y: 8}, impl.Spot{X: 3, Y: 5}, 0},
		{impl.Spot{X: 3, Y: 5}, impl.Spot{X: 5, Y: 8}, impl.Spot{X: 1, Y: 2}, 0},
		{impl.Spot{X: 3, Y: 5}, impl.Spot{X: 3, Y: 5}, impl.Spot{X: 1, Y: 2}, 0},
		{impl.Spot{X: 3, Y: 5}, impl.Spot{X: 1, Y: 2}, impl.Spot{X: 1, Y: 2}, 0},
		{impl.Spot{X: 3, Y: 5}, impl.Spot{X: 1, Y: 2}, impl.Spot{X: 3, Y: 5}, 0},
		{impl.Spot{X: 3, Y: 5}, impl.Spot{X: 3, Y: 5}, impl.Spot{X: 3, Y: 5}, 0},
		// Beside a line by as little as the grid allows.
		{impl.Spot{}, impl.Spot{X: 999, Y: 998}, impl.Spot{X: 1000, Y: 999}, 1},
		{impl.Spot{}, impl.Spot{X: 1000, Y: 999}, impl.Spot{X: 999, Y: 998}, -1},
		{impl.Spot{}, impl.Spot{X: 1000, Y: 1000}, impl.Spot{X: 500, Y: 500}, 0},
		{impl.Spot{}, impl.Spot{X: 1000}, impl.Spot{X: 1000, Y: 1000}, 1},
	} {
		if n, ok := impl.TurnOf(c.a, c.b, c.c); !ok || n != c.want {
			t.Error(c.a, c.b, c.c, n, ok)
		}
	}
}

func TestP2TurnsOfOneTriangle(t *testing.T) {
	list := spotsOf(0, 0, 3, 1, 7, 1000, 1000, 0, 999, 999, 500, 501, 3, 1, 6, 2)
	for _, a := range list {
		for _, b := range list {
			for _, c := range list {
				n, ok := impl.TurnOf(a, b, c)
				on, fine := impl.TurnOf(b, c, a)
				back, right := impl.TurnOf(c, b, a)
				if !ok || !fine || !right || n < -1 || n > 1 || on != n || back != -n {
					t.Error(a, b, c, n, on, back)
				}
			}
		}
	}
}

func TestP2TurnOfRefuses(t *testing.T) {
	a, b := impl.Spot{X: 5, Y: 5}, impl.Spot{X: 9, Y: 5}
	for _, p := range wrongSpots {
		for _, way := range [][3]impl.Spot{{p, a, b}, {a, p, b}, {a, b, p}, {p, p, p}} {
			if n, ok := impl.TurnOf(way[0], way[1], way[2]); ok || n != 0 {
				t.Error(way, n, ok)
			}
		}
	}
}

func TestP2LengthBetween(t *testing.T) {
	for x := range impl.MaxGrid + 1 {
		for _, y := range []int{0, 1, 2, 3, 40, 501, 999, impl.MaxGrid} {
			square := x*x + y*y
			n, ok := impl.LengthBetween(impl.Spot{X: x}, impl.Spot{Y: y})
			if !ok || n < 0 || n*n > square || (n+1)*(n+1) <= square {
				t.Fatal(x, y, n, ok)
			}
		}
	}
	for _, c := range []struct {
		a, b impl.Spot
		want int
	}{
		{impl.Spot{X: 4, Y: 4}, impl.Spot{X: 4, Y: 4}, 0},
		{impl.Spot{X: 4, Y: 4}, impl.Spot{X: 5, Y: 5}, 1},
		{impl.Spot{X: 30, Y: 40}, impl.Spot{}, 50},
		{impl.Spot{X: 4, Y: 7}, impl.Spot{X: 3, Y: 1}, 6},
		{impl.Spot{X: 600, Y: 0}, impl.Spot{X: 0, Y: 800}, 1000},
		{impl.Spot{X: 1000, Y: 1000}, impl.Spot{}, 1414},
	} {
		if n, ok := impl.LengthBetween(c.a, c.b); !ok || n != c.want {
			t.Error(c.a, c.b, n, ok)
		}
	}
}

func TestP29PointFunctionsLeaveTheirArguments(t *testing.T) {
	// What lies behind the length of the list is neither read nor written.
	whole := []impl.Spot{{X: 9, Y: 9}, {X: 1, Y: 1}, {X: 5, Y: 5}, {X: 4, Y: 4}, {X: -1, Y: 0}, {X: 0, Y: 2000}}
	before := slices.Clone(whole)
	p, b := impl.Spot{X: 4, Y: 4}, impl.Box{East: 5, North: 5}
	for size := range len(whole) + 1 {
		list := whole[:size]
		valid := size <= 4
		if impl.AreSpots(list) != valid {
			t.Error("AreSpots", size)
		}
		if _, ok := impl.NearestSpot(list, p); ok != (valid && size > 0) {
			t.Error("NearestSpot", size)
		}
		if _, ok := impl.BoxOf(list); ok != (valid && size > 0) {
			t.Error("BoxOf", size)
		}
		if inside, ok := impl.SpotsIn(list, b); ok != valid || valid && len(inside) != max(0, size-1) {
			t.Error("SpotsIn", size, inside)
		}
	}
	if !slices.Equal(whole, before) {
		t.Error("the list is now", whole)
	}
	if i, ok := impl.NearestSpot(whole[:3], p); !ok || i != 2 {
		t.Error("NearestSpot looks behind the list", i, ok)
	}
}

func TestP29SpotsInSharesNothing(t *testing.T) {
	list := spotsOf(1, 1, 2, 2, 3, 3)
	b := impl.Box{East: 5, North: 5}
	first, _ := impl.SpotsIn(list, b)
	second, _ := impl.SpotsIn(list, b)
	first[0], first[1] = 70, 71
	_ = append(first[:1], 72)
	third, _ := impl.SpotsIn(list, b)
	if want := []int{0, 1, 2}; !slices.Equal(second, want) || !slices.Equal(third, want) {
		t.Error(second, third)
	}
}

func TestP29PointFunctionsReturnForAllArguments(t *testing.T) {
	numbers := []int{math.MinInt, -1, 0, 1, impl.MaxGrid, impl.MaxGrid + 1, math.MaxInt}
	spots := []impl.Spot{}
	for _, x := range numbers {
		for _, y := range numbers {
			spots = append(spots, impl.Spot{X: x, Y: y})
		}
	}
	for _, p := range spots {
		for _, q := range spots {
			valid := impl.IsSpot(p) && impl.IsSpot(q)
			b := impl.Box{West: p.X, South: p.Y, East: q.X, North: q.Y}
			square, ok := impl.SquareBetween(p, q)
			length, fine := impl.LengthBetween(p, q)
			turn, right := impl.TurnOf(p, q, p)
			if ok != valid || fine != valid || right != valid || !ok && (square != 0 || length != 0 || turn != 0) {
				t.Error(p, q, square, length, turn)
			}
			if shared, ok := impl.SharedBox(b, b); ok != impl.IsBox(b) || ok && shared != b || !ok && shared != (impl.Box{}) {
				t.Error(b, shared, ok)
			}
			if inside, ok := impl.SpotsIn([]impl.Spot{p, q}, b); ok != (valid && impl.IsBox(b)) || !ok && len(inside) != 0 {
				t.Error(b, inside, ok)
			}
		}
	}
}
