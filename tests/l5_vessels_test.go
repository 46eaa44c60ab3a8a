package tests

import (
	"math"
	"slices"
	"strings"
	"testing"

	"loop.example/g01031/impl"
)

// wrongHeadings are none, by one or by far.
var wrongHeadings = []int{math.MinInt, -4, -1, 4, 5, 90, 360, math.MaxInt}

// wrongDepths are beyond a limit, by one or by far.
var wrongDepths = []int{math.MinInt, -1001, impl.MaxDepth + 1, math.MaxInt}

// tern is a Craft with an offset to both sides that can be told apart.
func tern() impl.Craft {
	return impl.Craft{Id: 1, Name: "tern", Draught: 80, Ahead: 30, Beside: 4, Speed: 40, Fuel: 60}
}

// ternWith is the tern with a change.
func ternWith(change func(*impl.Craft)) impl.Craft {
	v := tern()
	change(&v)
	return v
}

// goodCraft are at the limits or within them.
func goodCraft() []impl.Craft {
	return []impl.Craft{
		tern(),
		{Id: 1, Name: "a", Draught: 10, Speed: 1},
		{Id: 99, Name: "abcdefghij", Draught: 2000, Ahead: 500, Beside: 200, Speed: 60, Fuel: 10000},
		{Id: 50, Name: "zz", Draught: 11, Ahead: -500, Beside: -200, Speed: 2, Fuel: 1},
		{Id: 7, Name: "z", Draught: 1999, Ahead: 499, Beside: -199, Speed: 59, Fuel: 9999},
		{Id: 8, Name: "gull", Draught: 150, Ahead: -499, Beside: 199, Speed: 7, Fuel: 13},
		{Id: 9, Name: "wader", Draught: 300, Beside: 17, Speed: 30, Fuel: 2},
		{Id: 10, Name: "diver", Draught: 300, Ahead: -23, Speed: 30, Fuel: 2},
	}
}

// wrongCraft are beyond one limit each, by one or by far, or have a Name that is no word.
func wrongCraft() []impl.Craft {
	list := []impl.Craft{{}, {Id: 1, Name: "tern"}, {Name: "tern", Draught: 80, Speed: 40}}
	for _, n := range []int{math.MinInt, -1, 0, 100, math.MaxInt} {
		list = append(list, ternWith(func(v *impl.Craft) { v.Id = n }))
	}
	for _, s := range []string{"", "abcdefghijk", "Tern", "te rn", "tern1", "t-n", "tern\n", "te\x00rn", "`", "{", "\xff", "é", "zzé"} {
		list = append(list, ternWith(func(v *impl.Craft) { v.Name = s }))
	}
	for _, n := range []int{math.MinInt, -80, 0, 9, 2001, math.MaxInt} {
		list = append(list, ternWith(func(v *impl.Craft) { v.Draught = n }))
	}
	for _, n := range []int{math.MinInt, -501, 501, math.MaxInt} {
		list = append(list, ternWith(func(v *impl.Craft) { v.Ahead = n }))
	}
	for _, n := range []int{math.MinInt, -201, 201, 500, -500, math.MaxInt} {
		list = append(list, ternWith(func(v *impl.Craft) { v.Beside = n }))
	}
	for _, n := range []int{math.MinInt, -1, 0, 61, math.MaxInt} {
		list = append(list, ternWith(func(v *impl.Craft) { v.Speed = n }))
	}
	for _, n := range []int{math.MinInt, -1, 10001, math.MaxInt} {
		list = append(list, ternWith(func(v *impl.Craft) { v.Fuel = n }))
	}
	return list
}

// manyCraft are Craft with the Ids 3, 6, 9 and so on, of which several have the same Draught and the same Speed.
func manyCraft(count int) []impl.Craft {
	list := []impl.Craft{}
	for i := range count {
		list = append(list, impl.Craft{
			Id: 3 * (i + 1), Name: strings.Repeat("n", i%10+1), Draught: 200 - 50*(i%3), Ahead: 10 * i, Beside: -i,
			Speed: 20 + 10*(i%3), Fuel: i * i,
		})
	}
	return list
}

// craftLists are valid, from none to the most.
func craftLists() [][]impl.Craft {
	lists := [][]impl.Craft{
		nil, {}, {tern()}, {goodCraft()[2]}, {goodCraft()[1], goodCraft()[3], goodCraft()[2]}, goodCraft()[4:8],
		{{Id: 1, Name: "a", Draught: 10, Speed: 1}, {Id: 2, Name: "b", Draught: 10, Speed: 1}},
	}
	for count := 1; count <= impl.MaxVessels; count++ {
		lists = append(lists, manyCraft(count))
	}
	return lists
}

// wrongCraftLists are too long, out of order, with one Id or one Name twice, or with one that is not valid.
func wrongCraftLists() [][]impl.Craft {
	a, b, c := tern(), impl.Craft{Id: 2, Name: "gull", Draught: 80, Speed: 1}, impl.Craft{Id: 3, Name: "auk", Draught: 80, Speed: 1}
	twin, namesake, far := b, b, c
	twin.Id, namesake.Name, far.Name = 1, "tern", "tern"
	lists := [][]impl.Craft{
		manyCraft(impl.MaxVessels + 1), manyCraft(10),
		{b, a}, {a, c, b}, {c, a, b}, {a, twin}, {b, a, c}, {a, a}, {a, namesake}, {a, b, far}, {a, b, c, c},
	}
	for _, wrong := range wrongCraft() {
		lists = append(lists, []impl.Craft{wrong})
		wrong.Id = 2
		// A Craft whose Id alone was wrong is none any more.
		if impl.IsCraft(wrong) {
			continue
		}
		first, last := impl.Craft{Id: 1, Name: "auk", Draught: 80, Speed: 1}, impl.Craft{Id: 3, Name: "gull", Draught: 80, Speed: 1}
		lists = append(lists, []impl.Craft{wrong, last}, []impl.Craft{first, wrong, last}, []impl.Craft{first, wrong})
	}
	return lists
}

func TestP5IsCraft(t *testing.T) {
	for _, v := range goodCraft() {
		if !impl.IsCraft(v) {
			t.Error("not valid", v)
		}
	}
	for _, v := range wrongCraft() {
		if impl.IsCraft(v) {
			t.Error("valid", v)
		}
	}
	for n := -600; n <= 11000; n++ {
		for _, c := range []struct {
			v     impl.Craft
			valid bool
		}{
			{ternWith(func(v *impl.Craft) { v.Id = n }), 1 <= n && n <= 99},
			{ternWith(func(v *impl.Craft) { v.Draught = n }), 10 <= n && n <= 2000},
			{ternWith(func(v *impl.Craft) { v.Ahead = n }), -500 <= n && n <= 500},
			{ternWith(func(v *impl.Craft) { v.Beside = n }), -200 <= n && n <= 200},
			{ternWith(func(v *impl.Craft) { v.Speed = n }), 1 <= n && n <= 60},
			{ternWith(func(v *impl.Craft) { v.Fuel = n }), 0 <= n && n <= 10000},
		} {
			if impl.IsCraft(c.v) != c.valid {
				t.Error("valid should be", c.valid, c.v)
			}
		}
	}
}

func TestP5TheNameIsAWord(t *testing.T) {
	for b := range 256 {
		for _, name := range []string{string([]byte{byte(b)}), string([]byte{'a', byte(b)}), string([]byte{byte(b), 'z', 'z'})} {
			v := ternWith(func(v *impl.Craft) { v.Name = name })
			if impl.IsCraft(v) != ('a' <= b && b <= 'z') {
				t.Error("name", []byte(name))
			}
		}
	}
	for size := range 20 {
		v := ternWith(func(v *impl.Craft) { v.Name = strings.Repeat("q", size) })
		if impl.IsCraft(v) != (1 <= size && size <= 10) {
			t.Error("size", size)
		}
	}
}

func TestP5AreCraft(t *testing.T) {
	for _, list := range craftLists() {
		if !impl.AreCraft(list) {
			t.Error("not valid", list)
		}
	}
	for _, list := range wrongCraftLists() {
		if impl.AreCraft(list) {
			t.Error("valid", list)
		}
	}
	for count := range 11 {
		if impl.AreCraft(manyCraft(count)) != (count <= 6) {
			t.Error("count", count)
		}
	}
}

func TestP5TheWrongCraftOfALongListIsFound(t *testing.T) {
	for i := range impl.MaxVessels {
		for _, change := range []func(*impl.Craft){
			func(v *impl.Craft) { v.Id = 100 }, func(v *impl.Craft) { v.Name = "N" }, func(v *impl.Craft) { v.Draught = 9 },
			func(v *impl.Craft) { v.Ahead = 501 }, func(v *impl.Craft) { v.Beside = -201 }, func(v *impl.Craft) { v.Speed = 61 },
			func(v *impl.Craft) { v.Fuel = -1 },
		} {
			list := manyCraft(impl.MaxVessels)
			change(&list[i])
			if impl.AreCraft(list) {
				t.Error("valid", list)
			}
		}
		for j := range i {
			list := manyCraft(impl.MaxVessels)
			list[i].Name = list[j].Name
			if impl.AreCraft(list) {
				t.Error("one name twice", i, j)
			}
			list = manyCraft(impl.MaxVessels)
			list[i].Id, list[j].Id = list[j].Id, list[i].Id
			if impl.AreCraft(list) {
				t.Error("out of order", i, j)
			}
			list[j].Id = list[i].Id
			if impl.AreCraft(list) {
				t.Error("one id twice", i, j)
			}
		}
	}
}

func TestP5SounderAt(t *testing.T) {
	back := impl.Craft{Id: 2, Name: "gull", Draught: 80, Ahead: -7, Beside: -3, Speed: 1}
	mixed := impl.Craft{Id: 2, Name: "gull", Draught: 80, Ahead: -500, Beside: 200, Speed: 1}
	middle := impl.Craft{Id: 2, Name: "gull", Draught: 80, Speed: 1}
	for _, c := range []struct {
		v                     impl.Craft
		x, y, heading, sx, sy int
	}{
		{tern(), 1000, 2000, 0, 1004, 2030}, {tern(), 1000, 2000, 1, 1030, 1996},
		{tern(), 1000, 2000, 2, 996, 1970}, {tern(), 1000, 2000, 3, 970, 2004},
		{back, 1000, 2000, 0, 997, 1993}, {back, 1000, 2000, 1, 993, 2003},
		{back, 1000, 2000, 2, 1003, 2007}, {back, 1000, 2000, 3, 1007, 1997},
		{mixed, 5000, 5000, 0, 5200, 4500}, {mixed, 5000, 5000, 1, 4500, 4800},
		{mixed, 5000, 5000, 2, 4800, 5500}, {mixed, 5000, 5000, 3, 5500, 5200},
		{middle, 3, 4, 0, 3, 4}, {middle, 3, 4, 1, 3, 4}, {middle, 3, 4, 2, 3, 4}, {middle, 3, 4, 3, 3, 4},
		// The sounder may lie where no antenna may.
		{tern(), 0, 0, 0, 4, 30}, {tern(), 0, 0, 1, 30, -4}, {tern(), 0, 0, 2, -4, -30}, {tern(), 0, 0, 3, -30, 4},
		{tern(), 10000, 10000, 0, 10004, 10030}, {tern(), 10000, 10000, 1, 10030, 9996},
		{mixed, 0, 10000, 2, -200, 10500}, {mixed, 10000, 0, 3, 10500, 200},
	} {
		if x, y, ok := impl.SounderAt(c.v, c.x, c.y, c.heading); !ok || x != c.sx || y != c.sy {
			t.Error(c.v, c.x, c.y, c.heading, x, y, ok)
		}
	}
}

func TestP5AntennaFor(t *testing.T) {
	back := impl.Craft{Id: 2, Name: "gull", Draught: 80, Ahead: -7, Beside: -3, Speed: 1}
	for _, c := range []struct {
		v                     impl.Craft
		x, y, heading, ax, ay int
	}{
		{tern(), 1000, 2000, 0, 996, 1970}, {tern(), 1000, 2000, 1, 970, 2004},
		{tern(), 1000, 2000, 2, 1004, 2030}, {tern(), 1000, 2000, 3, 1030, 1996},
		{back, 1000, 2000, 0, 1003, 2007}, {back, 1000, 2000, 1, 1007, 1997},
		{back, 1000, 2000, 2, 997, 1993}, {back, 1000, 2000, 3, 993, 2003},
		// The antenna may have to be where no sounder may be asked for.
		{tern(), 0, 0, 0, -4, -30}, {tern(), 0, 0, 1, -30, 4}, {tern(), 0, 0, 2, 4, 30}, {tern(), 0, 0, 3, 30, -4},
		{tern(), 10000, 10000, 2, 10004, 10030}, {tern(), 10000, 10000, 3, 10030, 9996},
	} {
		if x, y, ok := impl.AntennaFor(c.v, c.x, c.y, c.heading); !ok || x != c.ax || y != c.ay {
			t.Error(c.v, c.x, c.y, c.heading, x, y, ok)
		}
	}
}

// plainOffset is, by the document's words, where the sounder is from the antenna.
func plainOffset(v impl.Craft, heading int) (int, int) {
	ahead := [][2]int{{0, 1}, {1, 0}, {0, -1}, {-1, 0}}[heading]
	right := [][2]int{{1, 0}, {0, -1}, {-1, 0}, {0, 1}}[heading]
	return v.Ahead*ahead[0] + v.Beside*right[0], v.Ahead*ahead[1] + v.Beside*right[1]
}

func TestP5TheSounderIsWhereItWasAskedFor(t *testing.T) {
	sides := []int{0, 1, 4, 29, 30, 199, 200, 499, 500, 501, 4999, 9500, 9800, 9970, 9999, 10000}
	for _, v := range goodCraft() {
		for heading := range 4 {
			east, north := plainOffset(v, heading)
			for _, x := range sides {
				for _, y := range sides {
					sx, sy, isSounder := impl.SounderAt(v, x, y, heading)
					if !isSounder || sx != x+east || sy != y+north {
						t.Error("sounder", v, x, y, heading, sx, sy, isSounder)
					}
					ax, ay, isAntenna := impl.AntennaFor(v, x, y, heading)
					if !isAntenna || ax != x-east || ay != y-north {
						t.Error("antenna", v, x, y, heading, ax, ay, isAntenna)
					}
					isAllowed := 0 <= ax && ax <= 10000 && 0 <= ay && ay <= 10000
					sx, sy, isSounder = impl.SounderAt(v, ax, ay, heading)
					if isSounder != isAllowed || isAllowed && (sx != x || sy != y) || !isAllowed && (sx != 0 || sy != 0) {
						t.Error("asked for", v, x, y, heading, ax, ay, sx, sy, isSounder)
					}
				}
			}
		}
	}
}

func TestP5PlacesAreRefused(t *testing.T) {
	check := func(v impl.Craft, x, y, heading int) {
		if sx, sy, ok := impl.SounderAt(v, x, y, heading); ok || sx != 0 || sy != 0 {
			t.Error("sounder", v, x, y, heading, sx, sy, ok)
		}
		if ax, ay, ok := impl.AntennaFor(v, x, y, heading); ok || ax != 0 || ay != 0 {
			t.Error("antenna", v, x, y, heading, ax, ay, ok)
		}
	}
	for heading := range 4 {
		for _, v := range goodCraft() {
			for _, n := range []int{math.MinInt, -500, -4, -1, 10001, 10004, math.MaxInt} {
				check(v, n, 100, heading)
				check(v, 100, n, heading)
				check(v, n, n, heading)
			}
		}
		for _, v := range wrongCraft() {
			check(v, 100, 100, heading)
			check(v, -1, 100, heading)
		}
	}
	for _, heading := range wrongHeadings {
		for _, v := range goodCraft() {
			check(v, 100, 200, heading)
			check(v, 0, 0, heading)
		}
	}
}

func TestP5SecondsFor(t *testing.T) {
	for _, c := range []struct{ speed, meters, want int }{
		{40, 100, 25}, {40, 101, 26}, {40, 104, 26}, {40, 105, 27}, {40, 99, 25}, {40, 96, 24}, {40, 97, 25},
		{1, 0, 0}, {60, 0, 0}, {1, 1, 10}, {60, 1, 1}, {60, 6, 1}, {60, 7, 2}, {10, 7, 7}, {9, 9, 10}, {9, 10, 12},
		{1, 100000, 1000000}, {60, 100000, 16667}, {50, 100000, 20000}, {7, 7, 10}, {7, 8, 12}, {3, 1, 4}, {11, 1, 1},
	} {
		v := ternWith(func(v *impl.Craft) { v.Speed = c.speed })
		if n, ok := impl.SecondsFor(v, c.meters); !ok || n != c.want {
			t.Error(c, n, ok)
		}
	}
	for speed := 1; speed <= 60; speed++ {
		v := ternWith(func(v *impl.Craft) { v.Speed, v.Fuel = speed, 0 })
		for meters := 0; meters <= 100000; meters += 1 + meters/97 {
			n, ok := impl.SecondsFor(v, meters)
			// Enough seconds, and one less are not.
			if !ok || n*speed < 10*meters || n > 0 && (n-1)*speed >= 10*meters {
				t.Error(speed, meters, n, ok)
			}
		}
	}
}

func TestP5SecondsForRefuses(t *testing.T) {
	for _, v := range goodCraft() {
		for _, meters := range []int{math.MinInt, -1000, -1, 100001, math.MaxInt} {
			if n, ok := impl.SecondsFor(v, meters); ok || n != 0 {
				t.Error(v, meters, n, ok)
			}
		}
	}
	for _, v := range wrongCraft() {
		for _, meters := range []int{0, 1, 60, 100000} {
			if n, ok := impl.SecondsFor(v, meters); ok || n != 0 {
				t.Error(v, meters, n, ok)
			}
		}
	}
}

func TestP5UseFuel(t *testing.T) {
	for _, list := range craftLists() {
		for i, v := range list {
			for _, minutes := range []int{0, 1, 2, v.Fuel - 1, v.Fuel, v.Fuel + 1, v.Fuel + 60, 9999, 10000} {
				want := slices.Clone(list)
				want[i].Fuel -= minutes
				isEnough := 0 <= minutes && minutes <= min(v.Fuel, 10000)
				used, ok := impl.UseFuel(list, v.Id, minutes)
				if ok != isEnough || ok && !slices.Equal(used, want) || !ok && len(used) != 0 {
					t.Error(list, v.Id, minutes, used, ok)
				}
				if ok && !impl.AreCraft(used) {
					t.Error("not valid", used)
				}
			}
		}
	}
}

func TestP5FuelIsUsedUpToTheLastMinute(t *testing.T) {
	list := []impl.Craft{tern(), {Id: 2, Name: "gull", Draught: 150, Speed: 60, Fuel: 1}}
	for range 60 {
		used, ok := impl.UseFuel(list, 1, 1)
		if !ok {
			t.Fatal("not enough", list)
		}
		list = used
	}
	if list[0].Fuel != 0 || list[1].Fuel != 1 {
		t.Error("fuel", list)
	}
	if used, ok := impl.UseFuel(list, 1, 1); ok || len(used) != 0 {
		t.Error("one minute more", used)
	}
	// A vessel without fuel can use none.
	if used, ok := impl.UseFuel(list, 1, 0); !ok || !slices.Equal(used, list) {
		t.Error("no minute", used, ok)
	}
	if used, ok := impl.UseFuel(list, 2, 1); !ok || used[0].Fuel != 0 || used[1].Fuel != 0 {
		t.Error("the other vessel", used, ok)
	}
	full := []impl.Craft{goodCraft()[2]}
	if used, ok := impl.UseFuel(full, 99, 10000); !ok || used[0].Fuel != 0 {
		t.Error("all of it", used, ok)
	}
}

func TestP5UseFuelRefuses(t *testing.T) {
	check := func(list []impl.Craft, id, minutes int) {
		if used, ok := impl.UseFuel(list, id, minutes); ok || len(used) != 0 {
			t.Error(list, id, minutes, used, ok)
		}
	}
	for _, list := range craftLists() {
		for _, id := range []int{math.MinInt, -1, 0, 4, 5, 20, 98, 100, math.MaxInt} {
			check(list, id, 0)
			check(list, id, 1)
		}
		for _, v := range list {
			for _, minutes := range []int{math.MinInt, -10000, -1, 10001, math.MaxInt} {
				check(list, v.Id, minutes)
			}
		}
	}
	for _, list := range wrongCraftLists() {
		for _, v := range list {
			check(list, v.Id, 0)
			check(list, 1, 0)
		}
	}
}

func TestP5FloatsOver(t *testing.T) {
	list := []impl.Craft{
		{Id: 2, Name: "tern", Draught: 80, Speed: 1}, {Id: 5, Name: "gull", Draught: 150, Speed: 1},
		{Id: 9, Name: "auk", Draught: 10, Speed: 1}, {Id: 99, Name: "wader", Draught: 80, Speed: 1},
	}
	for _, c := range []struct {
		depth, under int
		want         []int
	}{
		{-1000, 0, nil}, {-1, 0, nil}, {0, 0, nil}, {9, 0, nil}, {10, 0, []int{9}}, {11, 0, []int{9}}, {10, 1, nil},
		{79, 0, []int{9}}, {80, 0, []int{2, 9, 99}}, {81, 0, []int{2, 9, 99}}, {149, 0, []int{2, 9, 99}}, {150, 0, []int{2, 5, 9, 99}},
		{129, 50, []int{9}}, {130, 50, []int{2, 9, 99}}, {199, 50, []int{2, 9, 99}}, {200, 50, []int{2, 5, 9, 99}},
		{509, 500, nil}, {510, 500, []int{9}}, {579, 500, []int{9}}, {580, 500, []int{2, 9, 99}}, {649, 500, []int{2, 9, 99}},
		{650, 500, []int{2, 5, 9, 99}}, {impl.MaxDepth, 500, []int{2, 5, 9, 99}}, {-1000, 500, nil},
	} {
		if ids, ok := impl.FloatsOver(list, c.depth, c.under); !ok || !slices.Equal(ids, c.want) {
			t.Error(c, ids, ok)
		}
	}
	for _, list := range craftLists() {
		for depth := -1000; depth <= impl.MaxDepth; depth += 1 + max(depth-700, 0)/9 {
			for _, under := range []int{0, 1, 50, 499, 500} {
				want := []int{}
				for _, v := range list {
					if v.Draught <= depth-under {
						want = append(want, v.Id)
					}
				}
				if ids, ok := impl.FloatsOver(list, depth, under); !ok || !slices.Equal(ids, want) {
					t.Error(list, depth, under, ids, ok)
				}
			}
		}
	}
}

func TestP5FloatsOverRefuses(t *testing.T) {
	check := func(list []impl.Craft, depth, under int) {
		if ids, ok := impl.FloatsOver(list, depth, under); ok || len(ids) != 0 {
			t.Error(list, depth, under, ids, ok)
		}
	}
	for _, list := range craftLists() {
		for _, depth := range wrongDepths {
			check(list, depth, 0)
			check(list, depth, 500)
		}
		for _, under := range []int{math.MinInt, -1, 501, math.MaxInt} {
			check(list, 5000, under)
			check(list, -1000, under)
		}
	}
	for _, list := range wrongCraftLists() {
		check(list, 5000, 0)
	}
}

func TestP5ShallowestCraft(t *testing.T) {
	list := []impl.Craft{
		{Id: 2, Name: "tern", Draught: 80, Speed: 9}, {Id: 5, Name: "gull", Draught: 50, Speed: 1},
		{Id: 9, Name: "auk", Draught: 50, Speed: 60}, {Id: 99, Name: "wader", Draught: 51, Speed: 1},
	}
	for _, c := range []struct {
		list []impl.Craft
		want int
	}{
		{list, 5}, {list[:1], 2}, {list[:2], 5}, {list[2:], 9}, {list[3:], 99}, {list[1:3], 5},
		{manyCraft(1), 3}, {manyCraft(2), 6}, {manyCraft(3), 9}, {manyCraft(5), 9}, {manyCraft(6), 9},
	} {
		if id, ok := impl.ShallowestCraft(c.list); !ok || id != c.want {
			t.Error(c.list, id, ok)
		}
	}
	for _, list := range append(wrongCraftLists(), nil, []impl.Craft{}, list[:0]) {
		if id, ok := impl.ShallowestCraft(list); ok || id != 0 {
			t.Error(list, id, ok)
		}
	}
}

func TestP5CraftFor(t *testing.T) {
	slow := impl.Craft{Id: 1, Name: "tern", Draught: 80, Speed: 40, Fuel: 60}
	fast := impl.Craft{Id: 2, Name: "gull", Draught: 150, Speed: 60, Fuel: 1}
	same := impl.Craft{Id: 3, Name: "auk", Draught: 150, Speed: 60, Fuel: 2}
	dry := impl.Craft{Id: 4, Name: "wader", Draught: 100, Speed: 60}
	for _, c := range []struct {
		list                []impl.Craft
		meters, depth, want int
	}{
		{[]impl.Craft{slow, fast}, 5000, 200, 1}, {[]impl.Craft{slow, fast}, 100, 200, 2},
		// A minute at 60 meters in ten seconds: 360 meters, and one more is too far.
		{[]impl.Craft{slow, fast}, 360, 200, 2}, {[]impl.Craft{slow, fast}, 361, 200, 1}, {[]impl.Craft{fast}, 360, 200, 2}, {[]impl.Craft{fast}, 361, 200, 0},
		{[]impl.Craft{slow}, 14400, 80, 1}, {[]impl.Craft{slow}, 14401, 80, 0},
		// A draught as great as the depth, and a depth that is a centimeter less.
		{[]impl.Craft{slow, fast}, 100, 150, 2}, {[]impl.Craft{slow, fast}, 100, 149, 1}, {[]impl.Craft{slow, fast}, 100, 80, 1},
		{[]impl.Craft{slow, fast}, 100, 79, 0}, {[]impl.Craft{slow, fast}, 0, -1000, 0}, {[]impl.Craft{slow, fast}, 0, impl.MaxDepth, 2},
		// Equal speeds: the smallest Id of those that can do it.
		{[]impl.Craft{slow, fast, same}, 300, 150, 2}, {[]impl.Craft{slow, fast, same}, 700, 150, 3}, {[]impl.Craft{slow, fast, same}, 721, 150, 1},
		{[]impl.Craft{fast, same, dry}, 0, 150, 2}, {[]impl.Craft{fast, same, dry}, 0, 149, 4},
		// Without fuel only no meters can be run.
		{[]impl.Craft{dry}, 0, 100, 4}, {[]impl.Craft{dry}, 1, 100, 0}, {[]impl.Craft{dry}, 0, 99, 0}, {[]impl.Craft{slow, dry}, 1, 100, 1}, {[]impl.Craft{slow, dry}, 0, 100, 4},
		{nil, 0, 100, 0}, {[]impl.Craft{}, 5, 100, 0},
		{[]impl.Craft{goodCraft()[2]}, 100000, 2000, 99}, {[]impl.Craft{goodCraft()[2]}, 100000, 1999, 0},
		{[]impl.Craft{{Id: 6, Name: "snail", Draught: 10, Speed: 1, Fuel: 10000}}, 60000, 10, 6},
		{[]impl.Craft{{Id: 6, Name: "snail", Draught: 10, Speed: 1, Fuel: 10000}}, 60001, 10, 0},
	} {
		if id, ok := impl.CraftFor(c.list, c.meters, c.depth); ok != (c.want > 0) || id != c.want {
			t.Error(c, id, ok)
		}
	}
}

func TestP5CraftForOfEveryList(t *testing.T) {
	for _, list := range craftLists() {
		for meters := 0; meters <= 100000; meters += 1 + meters/5 {
			for _, depth := range []int{-1000, 0, 9, 10, 99, 100, 149, 150, 151, 200, 300, 1999, 2000, impl.MaxDepth} {
				want, speed := 0, 0
				for _, v := range list {
					// The rest of a second is a second too.
					seconds := (10*meters + v.Speed - 1) / v.Speed
					if v.Draught <= depth && seconds <= 60*v.Fuel && v.Speed > speed {
						want, speed = v.Id, v.Speed
					}
				}
				if id, ok := impl.CraftFor(list, meters, depth); ok != (want > 0) || id != want {
					t.Error(list, meters, depth, id, ok)
				}
			}
		}
	}
}

func TestP5CraftForRefuses(t *testing.T) {
	check := func(list []impl.Craft, meters, depth int) {
		if id, ok := impl.CraftFor(list, meters, depth); ok || id != 0 {
			t.Error(list, meters, depth, id, ok)
		}
	}
	for _, list := range craftLists() {
		for _, depth := range wrongDepths {
			check(list, 0, depth)
		}
		for _, meters := range []int{math.MinInt, -1, 100001, math.MaxInt} {
			check(list, meters, impl.MaxDepth)
		}
	}
	for _, list := range wrongCraftLists() {
		check(list, 0, impl.MaxDepth)
	}
}

func TestP5CraftText(t *testing.T) {
	for _, c := range []struct {
		v    impl.Craft
		want string
	}{
		{tern(), "tern (1), draught 80 cm, sounder 30/4"},
		{goodCraft()[1], "a (1), draught 10 cm, sounder 0/0"},
		{goodCraft()[2], "abcdefghij (99), draught 2000 cm, sounder 500/200"},
		{goodCraft()[3], "zz (50), draught 11 cm, sounder -500/-200"},
		{goodCraft()[4], "z (7), draught 1999 cm, sounder 499/-199"},
		{goodCraft()[5], "gull (8), draught 150 cm, sounder -499/199"},
		{goodCraft()[6], "wader (9), draught 300 cm, sounder 0/17"},
		{goodCraft()[7], "diver (10), draught 300 cm, sounder -23/0"},
	} {
		if s, ok := impl.CraftText(c.v); !ok || s != c.want {
			t.Error(c.v, s, ok)
		}
	}
	for _, v := range wrongCraft() {
		if s, ok := impl.CraftText(v); ok || s != "" {
			t.Error(v, s, ok)
		}
	}
}

func TestP29VesselFunctionsLeaveTheirArguments(t *testing.T) {
	// What lies behind the length of the list is neither read nor written.
	whole := append(manyCraft(4), impl.Craft{Id: 99, Name: "BAD"}, impl.Craft{Id: 1, Name: "n"}, tern(), tern())
	before := slices.Clone(whole)
	for size := range len(whole) + 1 {
		list := whole[:size]
		valid := size <= 4
		if impl.AreCraft(list) != valid {
			t.Error("AreCraft", size)
		}
		if used, ok := impl.UseFuel(list, 12, 9); ok != (size == 4) || ok && used[3].Fuel != 0 {
			t.Error("UseFuel", size, used)
		}
		if ids, ok := impl.FloatsOver(list, 200, 0); ok != valid || valid && len(ids) != size {
			t.Error("FloatsOver", size, ids)
		}
		if id, ok := impl.ShallowestCraft(list); ok != (valid && size > 0) || ok && id != min(3*size, 9) {
			t.Error("ShallowestCraft", size, id)
		}
		if id, ok := impl.CraftFor(list, 0, 200); ok != (valid && size > 0) || ok && id != min(3*size, 9) {
			t.Error("CraftFor", size, id)
		}
	}
	if !slices.Equal(whole, before) {
		t.Error("the Craft are now", whole)
	}
}

func TestP29VesselResultsShareNothing(t *testing.T) {
	// The list has room behind its length, in which no result may lie.
	room := make([]impl.Craft, 3, impl.MaxVessels)
	copy(room, manyCraft(3))
	for _, minutes := range []int{0, 1} {
		used, _ := impl.UseFuel(room, 6, minutes)
		other, _ := impl.UseFuel(room, 6, minutes)
		want := manyCraft(3)
		want[1].Fuel -= minutes
		if !slices.Equal(used, want) || !slices.Equal(other, want) {
			t.Fatal("not used", used, other)
		}
		for i := range used {
			used[i] = impl.Craft{Id: -7}
		}
		_ = append(used, impl.Craft{Id: -8})
		if !slices.Equal(other, want) {
			t.Error("the other result is now", other)
		}
	}
	ids, _ := impl.FloatsOver(room, 200, 0)
	if !slices.Equal(ids, []int{3, 6, 9}) {
		t.Fatal("ids", ids)
	}
	ids[0], ids[1] = -7, -7
	if again, ok := impl.FloatsOver(room, 200, 0); !ok || !slices.Equal(again, []int{3, 6, 9}) {
		t.Error("the ids are now", again)
	}
	if !slices.Equal(room[:impl.MaxVessels], append(manyCraft(3), make([]impl.Craft, impl.MaxVessels-3)...)) {
		t.Error("the Craft are now", room[:impl.MaxVessels])
	}
}

func TestP29VesselFunctionsReturnForAllArguments(t *testing.T) {
	numbers := []int{math.MinInt, -1001, -1000, -500, -1, 0, 1, 3, 10, 60, 200, 500, 2000, 10000, 100000, 100001, math.MaxInt}
	for _, a := range numbers {
		for _, b := range numbers {
			for _, c := range numbers {
				v := impl.Craft{Id: a, Name: "tern", Draught: b, Ahead: c, Beside: a, Speed: b, Fuel: c}
				other := impl.Craft{Id: b, Name: "gull", Draught: 60, Ahead: a, Beside: c, Speed: 60, Fuel: a}
				checkVessel(t, v, a, b, c)
				checkVessel(t, other, c, a, b)
				checkVessels(t, []impl.Craft{v, other}, a, b)
				checkVessels(t, manyCraft(4), a, b)
				checkVessels(t, []impl.Craft{other}, b, c)
			}
		}
	}
}

// checkVessel tells whether the functions of one Craft return something only if they succeed.
func checkVessel(t *testing.T, v impl.Craft, a, b, c int) {
	t.Helper()
	valid := impl.IsCraft(v)
	x, y, isSounder := impl.SounderAt(v, a, b, c)
	if isSounder && !valid || !isSounder && (x != 0 || y != 0) {
		t.Error("sounder", v, a, b, c, x, y)
	}
	x, y, isAntenna := impl.AntennaFor(v, a, b, c)
	if isAntenna != isSounder || !isAntenna && (x != 0 || y != 0) {
		t.Error("antenna", v, a, b, c, x, y)
	}
	n, isRun := impl.SecondsFor(v, a)
	if isRun && !valid || !isRun && n != 0 {
		t.Error("seconds", v, a, n)
	}
	text, isText := impl.CraftText(v)
	if isText != valid || !isText && text != "" {
		t.Error("text", v, text)
	}
}

// checkVessels tells whether the functions of a list return something only if they succeed.
func checkVessels(t *testing.T, list []impl.Craft, a, b int) {
	t.Helper()
	valid := impl.AreCraft(list)
	used, isUsed := impl.UseFuel(list, a, b)
	if isUsed && (!valid || !impl.AreCraft(used)) || !isUsed && len(used) != 0 {
		t.Error("fuel", list, a, b, used)
	}
	ids, isOver := impl.FloatsOver(list, a, b)
	if isOver && !valid || !isOver && len(ids) != 0 {
		t.Error("floats", list, a, b, ids)
	}
	id, isShallow := impl.ShallowestCraft(list)
	if isShallow != valid || !isShallow && id != 0 {
		t.Error("shallowest", list, id)
	}
	id, isFor := impl.CraftFor(list, a, b)
	if isFor && !valid || !isFor && id != 0 {
		t.Error("for", list, a, b, id)
	}
}
