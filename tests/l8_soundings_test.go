package tests

import (
	"fmt"
	"math"
	"math/big"
	"slices"
	"strings"
	"testing"

	"loop.example/g01031/impl"
)

// soundingsOf makes Soundings with the Ids 7, 14, 21 and so on of four numbers each: X, Y, Depth and Doubt.
func soundingsOf(numbers ...int) []impl.Sounding {
	list := []impl.Sounding{}
	for i := 0; i+3 < len(numbers); i += 4 {
		at := impl.Spot{X: numbers[i], Y: numbers[i+1]}
		list = append(list, impl.Sounding{Id: 7 + 7*i/4, At: at, Depth: numbers[i+2], Doubt: numbers[i+3]})
	}
	return list
}

// intervalsOf makes Soundings at one Spot with the Ids 7, 14, 21 and so on of pairs of a Depth and a Doubt.
func intervalsOf(numbers ...int) []impl.Sounding {
	list := []impl.Sounding{}
	for i := 0; i+1 < len(numbers); i += 2 {
		list = append(list, impl.Sounding{Id: 7 + 7*i/2, At: impl.Spot{X: 4, Y: 9}, Depth: numbers[i], Doubt: numbers[i+1]})
	}
	return list
}

// manySoundings have the Ids 7, 14, 21 and so on, and no two have the same place, Depth or Doubt.
func manySoundings(count int) []impl.Sounding {
	list := []impl.Sounding{}
	for i := range count {
		list = append(list, impl.Sounding{Id: 7 + 7*i, At: impl.Spot{X: 47 * i, Y: 40 + 2*i*i}, Depth: 900 - 211*i + 19*i*i, Doubt: 13 * i})
	}
	return list
}

// buoyed is a valid Sounding of which each number is another one.
func buoyed() impl.Sounding {
	return impl.Sounding{Id: 21, At: impl.Spot{X: 100, Y: 200}, Depth: -30, Doubt: 5}
}

// buoyedWith changes a valid Sounding.
func buoyedWith(change func(*impl.Sounding)) impl.Sounding {
	s := buoyed()
	change(&s)
	return s
}

// goodSoundings are at the limits or within them.
func goodSoundings() []impl.Sounding {
	return []impl.Sounding{
		buoyed(), {Id: 1}, {Id: 999}, {Id: 1, Depth: -1000}, {Id: 1, Depth: 20000}, {Id: 1, Doubt: 500}, {Id: 2, Doubt: 1},
		{Id: 999, At: impl.Spot{X: 1000, Y: 1000}, Depth: 20000, Doubt: 500}, {Id: 999, At: impl.Spot{X: 1000}, Depth: -1000, Doubt: 500},
		{Id: 500, At: impl.Spot{Y: 1000}, Depth: -1000}, {Id: 10, At: impl.Spot{X: 10, Y: 1}, Depth: 100, Doubt: 99}, {Id: 100, At: impl.Spot{X: 1, Y: 10}, Depth: -1, Doubt: 1},
		{Id: 998, At: impl.Spot{X: 999, Y: 999}, Depth: 19999, Doubt: 499}, {Id: 2, At: impl.Spot{X: 1, Y: 1}, Depth: -999, Doubt: 499}, {Id: 14, At: impl.Spot{X: 30, Y: 20}, Depth: 815},
	}
}

// wrongSoundings are beyond one limit each, by one or by far.
func wrongSoundings() []impl.Sounding {
	list := []impl.Sounding{{}, {At: impl.Spot{X: 1, Y: 1}, Depth: 100, Doubt: 5}}
	for _, n := range []int{math.MinInt, -21, -1, 0, 1000, math.MaxInt} {
		list = append(list, buoyedWith(func(s *impl.Sounding) { s.Id = n }))
	}
	for _, p := range wrongSpots {
		list = append(list, buoyedWith(func(s *impl.Sounding) { s.At = p }))
	}
	for _, n := range wrongDepths {
		list = append(list, buoyedWith(func(s *impl.Sounding) { s.Depth = n }))
	}
	for _, n := range wrongDoubts {
		list = append(list, buoyedWith(func(s *impl.Sounding) { s.Doubt = n }))
	}
	return list
}

// wrongDoubts are beyond a limit, by one or by far.
var wrongDoubts = []int{math.MinInt, -500, -1, 501, 1000, math.MaxInt}

// wrongRadiuses are beyond a limit, by one or by far; the square of the last ones is no number any more.
var wrongRadiuses = []int{-1, -20, -1000, 1001, 2000, math.MinInt, math.MaxInt, 1 << 32, -1 << 32}

// soundingLists are valid, from none to the most.
func soundingLists() [][]impl.Sounding {
	lists := [][]impl.Sounding{
		nil, {}, {{Id: 1}, {Id: 2}, {Id: 3}}, {{Id: 1, Doubt: 500}, {Id: 999, Doubt: 500}},
		// All at one place, in a row, and around a place.
		intervalsOf(800, 10, 815, 5, 790, 0, 812, 3), intervalsOf(-1000, 500, 20000, 500), intervalsOf(-5, 5, 5, 5, 0, 0),
		soundingsOf(10, 20, 800, 10, 30, 20, 815, 5, 100, 100, -30, 5),
		soundingsOf(500, 500, 700, 0, 503, 504, 710, 10, 504, 503, 705, 5, 495, 500, 690, 1, 497, 496, 720, 40, 500, 505, 689, 0),
		soundingsOf(0, 0, 5, 5, 1000, 1000, -5, 5, 0, 1000, 100, 110, 1000, 0, -10, 0, 500, 500, 20000, 500),
		soundingsOf(0, 0, 300, 50, 0, 0, 250, 0, 0, 1, 260, 10, 1, 1, 255, 6, 600, 800, 100, 0, 1000, 0, 90, 0),
	}
	for _, s := range goodSoundings() {
		lists = append(lists, []impl.Sounding{s})
	}
	for count := 1; count <= impl.MaxSoundings; count++ {
		lists = append(lists, manySoundings(count))
	}
	return lists
}

// wrongSoundingLists are too many, not in ascending order, or with one Sounding that is not valid.
func wrongSoundingLists() [][]impl.Sounding {
	lists := [][]impl.Sounding{manySoundings(impl.MaxSoundings + 1), manySoundings(20), make([]impl.Sounding, 3)}
	for count := 2; count <= impl.MaxSoundings; count++ {
		less, equal, far, turned := manySoundings(count), manySoundings(count), manySoundings(count), manySoundings(count)
		less[count-1].Id = less[count-2].Id - 1
		equal[count-1].Id = equal[count-2].Id
		far[count-1].Id = far[0].Id
		slices.Reverse(turned)
		lists = append(lists, less, equal, far, turned)
	}
	for _, wrong := range wrongSoundings() {
		lists = append(lists, []impl.Sounding{wrong})
		for i := range 3 {
			list, id := manySoundings(3), wrong.Id
			// One that is wrong beside its Id must not be out of order too.
			if id == buoyed().Id {
				id = list[i].Id
			}
			list[i] = wrong
			list[i].Id = id
			lists = append(lists, list)
		}
	}
	return lists
}

// radiusesAround returns radiuses with which Soundings are just within, and those beside them.
func radiusesAround(list []impl.Sounding, p impl.Spot) []int {
	radiuses := []int{0, 1, 2, 5, 500, 999, 1000}
	for _, s := range list {
		length, _ := impl.LengthBetween(s.At, p)
		radiuses = append(radiuses, length-1, length, length+1)
	}
	return slices.DeleteFunc(radiuses, func(radius int) bool { return radius < 0 || radius > 1000 })
}

// plainLeast returns, by the document's words, the least of the least depths of the Soundings that are meant and the Id of the first one that has it, or 0.
func plainLeast(list []impl.Sounding, isMeant func(impl.Sounding) bool) (int, int) {
	leasts := []int{}
	for _, s := range list {
		if isMeant(s) {
			leasts = append(leasts, s.Depth-s.Doubt)
		}
	}
	if len(leasts) == 0 {
		return 0, 0
	}
	least := slices.Min(leasts)
	i := slices.IndexFunc(list, func(s impl.Sounding) bool { return isMeant(s) && s.Depth-s.Doubt == least })
	return least, list[i].Id
}

func TestP8IsSounding(t *testing.T) {
	for _, s := range goodSoundings() {
		if !impl.IsSounding(s) {
			t.Error("not valid", s)
		}
	}
	for _, s := range wrongSoundings() {
		if impl.IsSounding(s) {
			t.Error("valid", s)
		}
	}
	for n := -1100; n <= 20100; n++ {
		for _, c := range []struct {
			s     impl.Sounding
			valid bool
		}{
			{buoyedWith(func(s *impl.Sounding) { s.Id = n }), 1 <= n && n <= 999},
			{buoyedWith(func(s *impl.Sounding) { s.At.X = n }), 0 <= n && n <= 1000},
			{buoyedWith(func(s *impl.Sounding) { s.At.Y = n }), 0 <= n && n <= 1000},
			{buoyedWith(func(s *impl.Sounding) { s.Depth = n }), -1000 <= n && n <= 20000},
			{buoyedWith(func(s *impl.Sounding) { s.Doubt = n }), 0 <= n && n <= 500},
		} {
			if impl.IsSounding(c.s) != c.valid {
				t.Error("valid should be", c.valid, c.s)
			}
		}
	}
}

func TestP8TheIntervalMayReachBeyondTheDepths(t *testing.T) {
	for _, depth := range []int{-1000, 20000} {
		for doubt := -1; doubt <= 501; doubt++ {
			s := impl.Sounding{Id: 1, Depth: depth, Doubt: doubt}
			if impl.IsSounding(s) != (0 <= doubt && doubt <= 500) {
				t.Error(s)
			}
		}
	}
}

func TestP8AreSoundings(t *testing.T) {
	for _, list := range soundingLists() {
		if !impl.AreSoundings(list) {
			t.Error("not valid", list)
		}
	}
	for _, list := range wrongSoundingLists() {
		if impl.AreSoundings(list) {
			t.Error("valid", list)
		}
	}
	for count := range 20 {
		if impl.AreSoundings(manySoundings(count)) != (count <= 12) {
			t.Error("count", count)
		}
	}
	// Only the Ids must differ.
	list := make([]impl.Sounding, impl.MaxSoundings)
	for i := range list {
		list[i].Id = 988 + i
	}
	if !impl.AreSoundings(list) {
		t.Error("successive ids")
	}
}

func TestP8TheWrongSoundingOfAFullListIsFound(t *testing.T) {
	for i := range impl.MaxSoundings {
		for _, change := range []func(*impl.Sounding){
			func(s *impl.Sounding) { s.At.X = -1 }, func(s *impl.Sounding) { s.At.Y = 1001 },
			func(s *impl.Sounding) { s.Depth = -1001 }, func(s *impl.Sounding) { s.Depth = 20001 },
			func(s *impl.Sounding) { s.Doubt = -1 }, func(s *impl.Sounding) { s.Doubt = 501 },
		} {
			list := manySoundings(impl.MaxSoundings)
			change(&list[i])
			if impl.AreSoundings(list) {
				t.Error("valid", list)
			}
		}
		for by := -8; by <= 8; by++ {
			list := manySoundings(impl.MaxSoundings)
			list[i].Id += by
			valid := (i > 0 && by > -7 || i == 0 && by >= -6) && (i == 11 || by < 7)
			if impl.AreSoundings(list) != valid {
				t.Error("id", i, by)
			}
		}
	}
}

func TestP8DoAgree(t *testing.T) {
	given := soundingsOf(10, 20, 800, 10, 30, 20, 815, 5, 100, 100, -30, 5)
	for _, c := range []struct {
		list []impl.Sounding
		a, b int
		want bool
	}{
		// The intervals 790..810 and 810..820 touch; one centimeter less and they miss each other.
		{given, 7, 14, true}, {given, 7, 21, false}, {given, 14, 21, false},
		{intervalsOf(800, 10, 815, 4), 7, 14, false}, {intervalsOf(800, 9, 815, 5), 7, 14, false}, {intervalsOf(800, 10, 816, 5), 7, 14, false}, {intervalsOf(799, 10, 815, 5), 7, 14, false},
		{intervalsOf(800, 11, 815, 5), 7, 14, true}, {intervalsOf(800, 10, 814, 5), 7, 14, true},
		// Without Doubt.
		{intervalsOf(800, 0, 800, 0), 7, 14, true}, {intervalsOf(800, 0, 801, 0), 7, 14, false}, {intervalsOf(800, 0, 801, 1), 7, 14, true}, {intervalsOf(-1, 0, 0, 0), 7, 14, false},
		{intervalsOf(0, 0, 0, 0), 7, 14, true}, {intervalsOf(0, 0, 5, 5), 7, 14, true}, {intervalsOf(0, 0, -5, 5), 7, 14, true}, {intervalsOf(0, 0, -5, 4), 7, 14, false},
		// The greatest Doubts.
		{intervalsOf(0, 500, 1000, 500), 7, 14, true}, {intervalsOf(0, 500, 1001, 500), 7, 14, false}, {intervalsOf(-1000, 500, 0, 500), 7, 14, true}, {intervalsOf(-1000, 500, 1, 500), 7, 14, false},
		{intervalsOf(20000, 500, 19000, 500), 7, 14, true}, {intervalsOf(20000, 500, 18999, 500), 7, 14, false}, {intervalsOf(-1000, 0, -500, 500), 7, 14, true}, {intervalsOf(-1000, 0, -499, 500), 7, 14, false},
		// One within the other, and negative Depths.
		{intervalsOf(800, 100, 780, 5), 7, 14, true}, {intervalsOf(-300, 100, -280, 5), 7, 14, true}, {intervalsOf(-300, 10, -280, 10), 7, 14, true}, {intervalsOf(-300, 10, -280, 9), 7, 14, false},
		// Pairs that agree where all do not; where they lie does not matter.
		{intervalsOf(100, 10, 120, 10, 140, 10), 7, 14, true}, {intervalsOf(100, 10, 120, 10, 140, 10), 14, 21, true}, {intervalsOf(100, 10, 120, 10, 140, 10), 7, 21, false},
		{soundingsOf(0, 0, 100, 0, 1000, 1000, 100, 0), 7, 14, true}, {soundingsOf(5, 5, 100, 0, 5, 5, 101, 0), 7, 14, false},
	} {
		for _, ids := range [][2]int{{c.a, c.b}, {c.b, c.a}} {
			if agree, ok := impl.DoAgree(c.list, ids[0], ids[1]); !ok || agree != c.want {
				t.Error(c.list, ids, agree, ok)
			}
		}
	}
}

func TestP8ASoundingAgreesWithItself(t *testing.T) {
	for _, list := range soundingLists() {
		for _, s := range list {
			if agree, ok := impl.DoAgree(list, s.Id, s.Id); !ok || !agree {
				t.Error(list, s, agree, ok)
			}
		}
	}
}

func TestP8SoundingsAgreeIfANumberIsInBoth(t *testing.T) {
	for _, list := range soundingLists() {
		for _, a := range list {
			for _, b := range list {
				want := false
				for n := a.Depth - a.Doubt; n <= a.Depth+a.Doubt; n++ {
					want = want || b.Depth-b.Doubt <= n && n <= b.Depth+b.Doubt
				}
				if agree, ok := impl.DoAgree(list, a.Id, b.Id); !ok || agree != want {
					t.Error(list, a, b, agree, ok)
				}
			}
		}
	}
}

func TestP8DoAgreeRefuses(t *testing.T) {
	check := func(list []impl.Sounding, a, b int) {
		t.Helper()
		if agree, ok := impl.DoAgree(list, a, b); ok || agree {
			t.Error(list, a, b, agree, ok)
		}
	}
	for _, list := range soundingLists() {
		for _, id := range []int{math.MinInt, -7, -1, 0, 6, 8, 13, 1000, math.MaxInt} {
			check(list, id, id)
			for _, s := range list {
				if isThere := slices.ContainsFunc(list, func(s impl.Sounding) bool { return s.Id == id }); !isThere {
					check(list, s.Id, id)
					check(list, id, s.Id)
				}
			}
		}
	}
	for _, list := range wrongSoundingLists() {
		check(list, list[0].Id, list[0].Id)
		check(list, list[0].Id, list[len(list)-1].Id)
		check(list, 7, 14)
	}
}

func TestP8AllAgree(t *testing.T) {
	for _, c := range []struct {
		list      []impl.Sounding
		low, high int
	}{
		{intervalsOf(800, 10, 815, 5), 810, 810}, {intervalsOf(800, 11, 815, 5), 810, 811}, {intervalsOf(815, 5, 800, 10), 810, 810},
		// One Sounding alone.
		{intervalsOf(800, 10), 790, 810}, {intervalsOf(-30, 5), -35, -25}, {intervalsOf(0, 0), 0, 0}, {intervalsOf(5, 5), 0, 10}, {intervalsOf(-5, 5), -10, 0},
		{intervalsOf(-1000, 500), -1500, -500}, {intervalsOf(20000, 500), 19500, 20500}, {intervalsOf(-1000, 0), -1000, -1000},
		// One that is in all others tells both numbers, or each is told by another one.
		{intervalsOf(100, 50, 110, 3, 120, 40), 107, 113}, {intervalsOf(110, 3, 100, 50, 120, 40), 107, 113}, {intervalsOf(100, 50, 130, 30, 120, 100), 100, 150},
		{intervalsOf(130, 30, 120, 100, 100, 50), 100, 150}, {intervalsOf(120, 100, 100, 50, 130, 30), 100, 150},
		// All touch in one number.
		{intervalsOf(100, 10, 110, 0, 120, 10), 110, 110}, {intervalsOf(110, 0, 120, 10, 100, 10), 110, 110}, {intervalsOf(-5, 5, 5, 5, 0, 0), 0, 0}, {intervalsOf(-500, 500, 500, 500), 0, 0},
		{intervalsOf(-300, 100, -280, 100), -380, -200}, {intervalsOf(0, 500, -1000, 500), -500, -500}, {intervalsOf(0, 500, 1000, 500), 500, 500},
		{intervalsOf(7, 1, 7, 2, 7, 3, 7, 4, 7, 5, 7, 6, 7, 7, 7, 8, 7, 9, 7, 10, 7, 11, 7, 12), 6, 8}, {intervalsOf(12, 12, 11, 11, 10, 10, 9, 9, 8, 8, 7, 7, 6, 6, 5, 5, 4, 4, 3, 3, 2, 2, 1, 1), 0, 2},
		{soundingsOf(0, 0, 100, 5, 1000, 1000, 103, 5), 98, 105},
	} {
		if low, high, ok := impl.AllAgree(c.list); !ok || low != c.low || high != c.high {
			t.Error(c, low, high, ok)
		}
	}
}

func TestP8NotAllAgree(t *testing.T) {
	lists := append(wrongSoundingLists(), nil, []impl.Sounding{},
		intervalsOf(800, 10, 815, 4), intervalsOf(815, 4, 800, 10), intervalsOf(0, 0, 1, 0), intervalsOf(-1, 0, 0, 0), intervalsOf(1, 0, 0, 0), intervalsOf(0, 500, 1001, 500),
		// Two and two agree, but not all.
		intervalsOf(100, 10, 120, 10, 140, 10), intervalsOf(100, 10, 110, 0, 121, 10), intervalsOf(100, 9, 120, 40, 110, 0),
		// The first or the last one of the most does not.
		intervalsOf(20, 12, 7, 0, 7, 0, 7, 0, 7, 0, 7, 0, 7, 0, 7, 0, 7, 0, 7, 0, 7, 0, 7, 0), intervalsOf(7, 0, 7, 0, 7, 0, 7, 0, 7, 0, 7, 0, 7, 0, 7, 0, 7, 0, 7, 0, 7, 0, 20, 12),
		soundingsOf(10, 20, 800, 10, 30, 20, 815, 5, 100, 100, -30, 5))
	for _, list := range lists {
		if low, high, ok := impl.AllAgree(list); ok || low != 0 || high != 0 {
			t.Error(list, low, high, ok)
		}
	}
}

func TestP8AllNumbersInAllIntervals(t *testing.T) {
	for _, list := range soundingLists() {
		inAll := []int{}
		for n := -1600; n <= 20600; n++ {
			isOutside := func(s impl.Sounding) bool { return n < s.Depth-s.Doubt || n > s.Depth+s.Doubt }
			if len(list) > 0 && !slices.ContainsFunc(list, isOutside) {
				inAll = append(inAll, n)
			}
		}
		low, high, ok := impl.AllAgree(list)
		if ok != (len(inAll) > 0) || ok && (low != inAll[0] || high != inAll[len(inAll)-1]) || !ok && (low != 0 || high != 0) {
			t.Error(list, low, high, ok)
		}
	}
}

func TestP8ShoalestIn(t *testing.T) {
	given := soundingsOf(10, 20, 800, 10, 30, 20, 815, 5, 100, 100, -30, 5)
	all := impl.Box{East: 1000, North: 1000}
	edge := impl.Box{West: 10, South: 20, East: 30, North: 40}
	for _, c := range []struct {
		list []impl.Sounding
		b    impl.Box
		want int
	}{
		{given, impl.Box{East: 50, North: 50}, 7}, {given, all, 21}, {given, impl.Box{West: 11, East: 50, North: 50}, 14}, {given, impl.Box{West: 11, East: 100, North: 99}, 14},
		// On each edge, at each corner and one meter outside.
		{soundingsOf(10, 30, 5, 0), edge, 7}, {soundingsOf(9, 30, 5, 0), edge, 0}, {soundingsOf(30, 30, 5, 0), edge, 7}, {soundingsOf(31, 30, 5, 0), edge, 0},
		{soundingsOf(20, 20, 5, 0), edge, 7}, {soundingsOf(20, 19, 5, 0), edge, 0}, {soundingsOf(20, 40, 5, 0), edge, 7}, {soundingsOf(20, 41, 5, 0), edge, 0},
		{soundingsOf(10, 20, 5, 0), edge, 7}, {soundingsOf(30, 20, 5, 0), edge, 7}, {soundingsOf(10, 40, 5, 0), edge, 7}, {soundingsOf(30, 40, 5, 0), edge, 7},
		{soundingsOf(9, 20, 5, 0), edge, 0}, {soundingsOf(30, 41, 5, 0), edge, 0}, {soundingsOf(31, 41, 5, 0), edge, 0},
		{soundingsOf(9, 30, 5, 0, 10, 30, 7, 0, 20, 30, 8, 0, 30, 30, 6, 0, 31, 30, 4, 0), edge, 28},
		{soundingsOf(20, 19, 5, 0, 20, 20, 6, 0, 20, 30, 8, 0, 20, 40, 7, 0, 20, 41, 4, 0), edge, 14},
		// A Box that is a point, or a line.
		{given, impl.Box{West: 30, South: 20, East: 30, North: 20}, 14}, {given, impl.Box{West: 30, South: 21, East: 30, North: 21}, 0}, {given, impl.Box{West: 10, South: 20, East: 100, North: 20}, 7},
		{soundingsOf(0, 0, 5, 0), impl.Box{}, 7}, {soundingsOf(1000, 1000, 5, 0), impl.Box{West: 1000, South: 1000, East: 1000, North: 1000}, 7}, {soundingsOf(0, 1, 5, 0), impl.Box{}, 0},
		// The least depth counts, and neither the Depth nor the Doubt.
		{intervalsOf(100, 0, 110, 11), all, 14}, {intervalsOf(100, 0, 110, 9), all, 7}, {intervalsOf(110, 11, 100, 0), all, 7}, {intervalsOf(100, 500, 90, 0), all, 7}, {intervalsOf(20000, 500, 19499, 0), all, 14},
		// Equal least depths: the first one.
		{intervalsOf(100, 0, 110, 10), all, 7}, {intervalsOf(110, 10, 100, 0), all, 7}, {intervalsOf(105, 0, 110, 10, 100, 0, 120, 20), all, 14}, {intervalsOf(0, 0, 0, 0, 0, 0), all, 7},
		{intervalsOf(10, 5, 500, 495, 505, 500, 6, 1), all, 7}, {soundingsOf(9, 30, 5, 0, 10, 30, 5, 0, 20, 30, 6, 1), edge, 14},
		// Around a least depth of 0, and negative Depths.
		{intervalsOf(1, 0, 0, 0, 2, 0), all, 14}, {intervalsOf(0, 0, -1, 0), all, 14}, {intervalsOf(-1, 0, 0, 0), all, 7}, {intervalsOf(-30, 5, -40, 0), all, 14}, {intervalsOf(-30, 11, -40, 0), all, 7},
		{intervalsOf(-1000, 499, -999, 500, -1000, 500), all, 21}, {intervalsOf(5, 5, 0, 1), all, 14},
		{manySoundings(12), all, 49}, {manySoundings(12), impl.Box{East: 46, North: 1000}, 7}, {manySoundings(12), impl.Box{West: 500, East: 1000, North: 1000}, 84},
		{nil, all, 0}, {[]impl.Sounding{}, impl.Box{}, 0}, {given, impl.Box{West: 500, South: 500, East: 1000, North: 1000}, 0},
	} {
		if id, ok := impl.ShoalestIn(c.list, c.b); ok != (c.want > 0) || id != c.want {
			t.Error(c, id, ok)
		}
	}
}

func TestP8ShoalestInEveryBox(t *testing.T) {
	boxes := append(gridBoxes(), impl.Box{East: 50, North: 50}, impl.Box{West: 495, South: 500, East: 503, North: 504}, impl.Box{West: 94, South: 48, East: 235, North: 90}, impl.Box{West: 95, South: 48, East: 517, North: 281})
	for _, list := range soundingLists() {
		for _, b := range boxes {
			_, want := plainLeast(list, func(s impl.Sounding) bool { return liesIn(s.At, b) })
			if id, ok := impl.ShoalestIn(list, b); ok != (want > 0) || id != want {
				t.Error(list, b, id, ok, want)
			}
		}
	}
}

func TestP8ShoalestInRefuses(t *testing.T) {
	for _, list := range soundingLists() {
		for _, b := range wrongBoxes {
			if id, ok := impl.ShoalestIn(list, b); ok || id != 0 {
				t.Error(list, b, id, ok)
			}
		}
	}
	for _, list := range wrongSoundingLists() {
		if id, ok := impl.ShoalestIn(list, impl.Box{East: 1000, North: 1000}); ok || id != 0 {
			t.Error(list, id, ok)
		}
	}
}

func TestP8SupportedDepth(t *testing.T) {
	given := soundingsOf(10, 20, 800, 10, 30, 20, 815, 5, 100, 100, -30, 5)
	around := soundingsOf(500, 500, 700, 0, 503, 504, 710, 20, 505, 501, 650, 0)
	p, centre, corner := impl.Spot{X: 30, Y: 20}, impl.Spot{X: 500, Y: 500}, impl.Spot{X: 1000, Y: 1000}
	for _, c := range []struct {
		list    []impl.Sounding
		p       impl.Spot
		radius  int
		want    int
		isThere bool
	}{
		{given, p, 20, 790, true}, {given, p, 19, 810, true}, {given, p, 0, 810, true}, {given, p, 1, 810, true}, {given, p, 1000, -35, true},
		// A radius whose square is just that of the distance and one less, and squares that differ by one.
		{around, centre, 5, 690, true}, {around, centre, 4, 700, true}, {around, centre, 6, 650, true}, {around, centre, 0, 700, true},
		{soundingsOf(500, 500, 700, 0), impl.Spot{X: 503, Y: 504}, 5, 700, true}, {soundingsOf(500, 500, 700, 0), impl.Spot{X: 503, Y: 504}, 4, 0, false},
		{soundingsOf(500, 500, 700, 0), impl.Spot{X: 497, Y: 496}, 5, 700, true}, {soundingsOf(500, 500, 700, 0), impl.Spot{X: 505, Y: 501}, 5, 0, false}, {soundingsOf(500, 500, 700, 0), impl.Spot{X: 501, Y: 505}, 5, 0, false},
		{soundingsOf(500, 500, 700, 0), impl.Spot{X: 505, Y: 501}, 6, 700, true}, {soundingsOf(500, 500, 700, 0), impl.Spot{X: 501, Y: 501}, 1, 0, false}, {soundingsOf(500, 500, 700, 0), impl.Spot{X: 501, Y: 501}, 2, 700, true},
		{soundingsOf(500, 500, 700, 0), impl.Spot{X: 505, Y: 500}, 5, 700, true}, {soundingsOf(500, 500, 700, 0), impl.Spot{X: 495, Y: 500}, 4, 0, false}, {soundingsOf(500, 500, 700, 0), impl.Spot{X: 500, Y: 505}, 4, 0, false},
		// The greatest radius.
		{soundingsOf(0, 0, 700, 0), impl.Spot{X: 600, Y: 800}, 1000, 700, true}, {soundingsOf(0, 0, 700, 0), impl.Spot{X: 600, Y: 800}, 999, 0, false}, {soundingsOf(0, 0, 700, 0), impl.Spot{X: 601, Y: 800}, 1000, 0, false},
		{soundingsOf(0, 0, 700, 0), impl.Spot{X: 1000}, 1000, 700, true}, {soundingsOf(0, 0, 700, 0), impl.Spot{X: 1000, Y: 1}, 1000, 0, false}, {soundingsOf(0, 0, 700, 0), corner, 1000, 0, false},
		// A radius of 0 reaches a Sounding at the Spot alone.
		{soundingsOf(0, 0, 700, 0), impl.Spot{}, 0, 700, true}, {soundingsOf(1000, 1000, 700, 0), corner, 0, 700, true}, {soundingsOf(1, 0, 700, 0), impl.Spot{}, 0, 0, false}, {soundingsOf(0, 1, 700, 0), impl.Spot{}, 0, 0, false},
		{soundingsOf(1, 0, 700, 0), impl.Spot{}, 1, 700, true}, {soundingsOf(0, 1, 700, 0), impl.Spot{}, 1, 700, true},
		// The least depth counts, and not the Depth; least depths may be equal, 0 and beyond the depths.
		{intervalsOf(100, 0, 110, 11), impl.Spot{X: 4, Y: 9}, 0, 99, true}, {intervalsOf(110, 11, 100, 0), impl.Spot{X: 4, Y: 9}, 0, 99, true}, {intervalsOf(100, 0, 110, 10), impl.Spot{X: 4, Y: 9}, 0, 100, true},
		{intervalsOf(5, 5), impl.Spot{X: 4, Y: 9}, 0, 0, true}, {intervalsOf(5, 5, 0, 0, 1, 0), impl.Spot{X: 4, Y: 9}, 0, 0, true}, {intervalsOf(5, 5, 0, 1), impl.Spot{X: 4, Y: 9}, 0, -1, true}, {intervalsOf(0, 0, 5, 4), impl.Spot{X: 4, Y: 9}, 0, 0, true},
		{intervalsOf(-1000, 500), impl.Spot{X: 4, Y: 9}, 0, -1500, true}, {intervalsOf(20000, 0), impl.Spot{X: 4, Y: 9}, 0, 20000, true}, {intervalsOf(-30, 5, -40, 0), impl.Spot{X: 4, Y: 9}, 0, -40, true}, {intervalsOf(-30, 11, -40, 0), impl.Spot{X: 4, Y: 9}, 0, -41, true},
		{nil, impl.Spot{}, 1000, 0, false}, {[]impl.Sounding{}, p, 0, 0, false}, {given, impl.Spot{X: 500, Y: 500}, 300, 0, false},
	} {
		if n, ok := impl.SupportedDepth(c.list, c.p, c.radius); ok != c.isThere || n != c.want {
			t.Error(c, n, ok)
		}
	}
}

func TestP8ASupportedDepthIsNotGreaterThanAnyWithinTheRadius(t *testing.T) {
	places := []impl.Spot{{}, {X: 1000, Y: 1000}, {X: 500, Y: 500}, {X: 4, Y: 9}, {X: 30, Y: 20}, {X: 94, Y: 48}, {X: 600, Y: 800}, {Y: 1}}
	for _, list := range soundingLists() {
		for _, p := range places {
			for _, radius := range radiusesAround(list, p) {
				isWithin := func(s impl.Sounding) bool {
					square, _ := impl.SquareBetween(s.At, p)
					return square <= radius*radius
				}
				want, id := plainLeast(list, isWithin)
				n, ok := impl.SupportedDepth(list, p, radius)
				if ok != (id > 0) || n != want {
					t.Error(list, p, radius, n, ok, want)
				}
				for _, s := range list {
					if ok && isWithin(s) && (n > s.Depth-s.Doubt || n > s.Depth) {
						t.Error("too deep", list, p, radius, n, s)
					}
				}
			}
		}
	}
}

func TestP8AGreaterRadiusSupportsNoGreaterDepth(t *testing.T) {
	for _, list := range soundingLists() {
		last, wasThere := 0, false
		for radius := range 1001 {
			n, ok := impl.SupportedDepth(list, impl.Spot{X: 400, Y: 300}, radius)
			if wasThere && (!ok || n > last) {
				t.Error(list, radius, n, ok, last)
			}
			last, wasThere = n, ok
		}
	}
}

func TestP8SupportedDepthRefuses(t *testing.T) {
	check := func(list []impl.Sounding, p impl.Spot, radius int) {
		t.Helper()
		if n, ok := impl.SupportedDepth(list, p, radius); ok || n != 0 {
			t.Error(list, p, radius, n, ok)
		}
	}
	for _, list := range soundingLists() {
		for _, radius := range wrongRadiuses {
			check(list, impl.Spot{X: 4, Y: 9}, radius)
			for _, s := range list {
				check(list, s.At, radius)
			}
		}
		for _, p := range wrongSpots {
			check(list, p, 0)
			check(list, p, 1000)
		}
	}
	for _, list := range wrongSoundingLists() {
		check(list, impl.Spot{X: 100, Y: 100}, 1000)
		check(list, impl.Spot{X: 0, Y: 40}, 1)
	}
}

func TestP8MeanDepth(t *testing.T) {
	for _, c := range []struct {
		list     []impl.Sounding
		num, den int
	}{
		{intervalsOf(800, 10, 815, 5), 1615, 2}, {intervalsOf(800, 10, 815, 5, -30, 5), 1585, 3},
		// A whole number, one Sounding alone, and 0.
		{intervalsOf(800, 10, 814, 5), 807, 1}, {intervalsOf(800, 10), 800, 1}, {intervalsOf(-30, 5), -30, 1}, {intervalsOf(0, 0), 0, 1}, {intervalsOf(0, 500), 0, 1}, {intervalsOf(7, 0, 7, 0, 7, 0), 7, 1},
		{intervalsOf(-30, 5, 30, 0), 0, 1}, {intervalsOf(-30, 5, 10, 0, 20, 0), 0, 1}, {intervalsOf(0, 1, 0, 2, 0, 3), 0, 1},
		// Lowest terms, and negative sums.
		{intervalsOf(1, 0, 0, 0, 0, 0, 1, 0), 1, 2}, {intervalsOf(1, 0, 0, 0, 0, 0), 1, 3}, {intervalsOf(-1, 0, 0, 0, 0, 0), -1, 3}, {intervalsOf(-1, 0, -2, 0), -3, 2}, {intervalsOf(-1, 0, 2, 0), 1, 2},
		{intervalsOf(-7, 0, 0, 0, 0, 0, 1, 0), -3, 2}, {intervalsOf(9, 0, 0, 0, 0, 0, 0, 0, 0, 0, 0, 0), 3, 2},
		{intervalsOf(1, 0, 0, 0, 0, 0, 0, 0, 0, 0, 0, 0, 0, 0, 0, 0, 0, 0, 0, 0, 0, 0, 0, 0), 1, 12}, {intervalsOf(10, 0, 0, 0, 0, 0, 0, 0, 0, 0, 0, 0, 0, 0, 0, 0, 0, 0, 0, 0, 0, 0, 0, 0), 5, 6},
		{intervalsOf(20000, 0, 19999, 0), 39999, 2}, {intervalsOf(-1000, 500, -999, 500), -1999, 2},
	} {
		if num, den, ok := impl.MeanDepth(c.list); !ok || num != c.num || den != c.den {
			t.Error(c, num, den, ok)
		}
	}
	for _, list := range soundingLists() {
		sum := new(big.Rat)
		for _, s := range list {
			sum.Add(sum, big.NewRat(int64(s.Depth), int64(len(list))))
		}
		num, den, ok := impl.MeanDepth(list)
		if ok != (len(list) > 0) || ok && !isExactly(num, den, sum) || !ok && (num != 0 || den != 0) {
			t.Error(list, num, den, ok)
		}
	}
	for _, list := range append(wrongSoundingLists(), nil, []impl.Sounding{}) {
		if num, den, ok := impl.MeanDepth(list); ok || num != 0 || den != 0 {
			t.Error(list, num, den, ok)
		}
	}
}

func TestP8LowerAll(t *testing.T) {
	for _, c := range []struct {
		list      []impl.Sounding
		by, doubt int
		want      []impl.Sounding
	}{
		{intervalsOf(800, 10, -30, 5), 5, 1, intervalsOf(805, 11, -25, 6)}, {intervalsOf(800, 10, -30, 5), -5, 0, intervalsOf(795, 10, -35, 5)}, {intervalsOf(800, 10), 0, 0, intervalsOf(800, 10)},
		// Just within the limits of a Depth and of a Doubt.
		{intervalsOf(0, 0), 20000, 0, intervalsOf(20000, 0)}, {intervalsOf(0, 0), -1000, 0, intervalsOf(-1000, 0)}, {intervalsOf(-1000, 0), 21000, 500, intervalsOf(20000, 500)}, {intervalsOf(20000, 500), -21000, 0, intervalsOf(-1000, 500)},
		{intervalsOf(0, 500), 0, 0, intervalsOf(0, 500)}, {intervalsOf(0, 499), 0, 1, intervalsOf(0, 500)}, {intervalsOf(0, 0), 0, 500, intervalsOf(0, 500)}, {intervalsOf(19990, 250, -990, 1), 10, 250, intervalsOf(20000, 500, -980, 251)},
		{intervalsOf(19990, 250, -990, 1), -10, 0, intervalsOf(19980, 250, -1000, 1)},
		{soundingsOf(10, 20, 800, 10, 30, 20, 815, 5, 100, 100, -30, 5), 5, 1, soundingsOf(10, 20, 805, 11, 30, 20, 820, 6, 100, 100, -25, 6)},
		// No Soundings to lower.
		{nil, 5, 1, nil}, {[]impl.Sounding{}, 30000, 500, nil}, {nil, -30000, 0, nil}, {nil, 0, 0, nil},
	} {
		if got, ok := impl.LowerAll(c.list, c.by, c.doubt); !ok || !slices.Equal(got, c.want) {
			t.Error(c, got, ok)
		}
	}
	for _, list := range soundingLists() {
		for _, by := range []int{-30000, -21001, -21000, -1000, -100, -1, 0, 1, 5, 100, 19100, 21000, 21001, 29999, 30000} {
			for _, doubt := range []int{0, 1, 100, 357, 358, 499, 500} {
				want := []impl.Sounding{}
				for _, s := range list {
					want = append(want, impl.Sounding{Id: s.Id, At: s.At, Depth: s.Depth + by, Doubt: s.Doubt + doubt})
				}
				if !impl.AreSoundings(want) {
					want = nil
				}
				if got, ok := impl.LowerAll(list, by, doubt); ok != (want != nil) || !slices.Equal(got, want) {
					t.Error(list, by, doubt, got, ok)
				}
			}
		}
	}
}

func TestP8LowerAllRefuses(t *testing.T) {
	check := func(list []impl.Sounding, by, doubt int) {
		t.Helper()
		if got, ok := impl.LowerAll(list, by, doubt); ok || len(got) != 0 {
			t.Error(list, by, doubt, got, ok)
		}
	}
	// Beyond the limits of a Depth and of a Doubt by one, in any of the Soundings.
	check(intervalsOf(0, 0), 20001, 0)
	check(intervalsOf(0, 0), -1001, 0)
	check(intervalsOf(20000, 0), 1, 0)
	check(intervalsOf(-1000, 0), -1, 0)
	check(intervalsOf(-1000, 0), 21001, 0)
	check(intervalsOf(0, 500), 0, 1)
	check(intervalsOf(0, 1), 0, 500)
	check(intervalsOf(20000, 0, 100, 0, 100, 0), 1, 0)
	check(intervalsOf(100, 0, 20000, 0, 100, 0), 1, 0)
	check(intervalsOf(100, 0, 100, 0, 20000, 0), 1, 0)
	check(intervalsOf(100, 0, 100, 500), 1, 1)
	check(intervalsOf(100, 500, 100, 0), 1, 1)
	check(intervalsOf(100, 0, -1000, 0), -1, 0)
	// Other numbers, also for no Soundings.
	for _, list := range soundingLists() {
		for _, by := range []int{math.MinInt, -30001, 30001, math.MaxInt, math.MinInt + 1000} {
			check(list, by, 0)
		}
		for _, doubt := range wrongDoubts {
			check(list, 0, doubt)
		}
		check(list, 30001, 501)
	}
	// A Doubt of 0 stays as it is, but none is taken away.
	check(intervalsOf(100, 10), 0, -10)
	for _, list := range wrongSoundingLists() {
		check(list, 0, 0)
		check(list, 1, 1)
		check(list, -1, 0)
	}
}

func TestP8LoweringDoesNotMakeSoundingsValid(t *testing.T) {
	high, deep := buoyedWith(func(s *impl.Sounding) { s.Depth = -1001 }), buoyedWith(func(s *impl.Sounding) { s.Depth = 20001 })
	sure := buoyedWith(func(s *impl.Sounding) { s.Doubt = -1 })
	for _, c := range []struct {
		s         impl.Sounding
		by, doubt int
	}{{high, 1, 0}, {high, 30000, 0}, {deep, -1, 0}, {deep, -30000, 0}, {sure, 0, 1}, {sure, 0, 500}} {
		if got, ok := impl.LowerAll([]impl.Sounding{c.s}, c.by, c.doubt); ok || len(got) != 0 {
			t.Error(c, got, ok)
		}
	}
}

func TestP8SoundingText(t *testing.T) {
	for _, c := range []struct {
		s    impl.Sounding
		want string
	}{
		{buoyed(), "21@100,200:-30+-5"}, {impl.Sounding{Id: 1}, "1@0,0:0+-0"}, {impl.Sounding{Id: 14, At: impl.Spot{X: 30, Y: 20}, Depth: 815}, "14@30,20:815+-0"},
		{impl.Sounding{Id: 999, At: impl.Spot{X: 1000, Y: 1000}, Depth: 20000, Doubt: 500}, "999@1000,1000:20000+-500"},
		{impl.Sounding{Id: 999, At: impl.Spot{X: 1000}, Depth: -1000, Doubt: 500}, "999@1000,0:-1000+-500"}, {impl.Sounding{Id: 2, At: impl.Spot{Y: 7}, Depth: -1, Doubt: 1}, "2@0,7:-1+-1"},
		{impl.Sounding{Id: 100, At: impl.Spot{X: 10, Y: 9}, Depth: 10, Doubt: 99}, "100@10,9:10+-99"},
	} {
		if text, ok := impl.SoundingText(c.s); !ok || text != c.want {
			t.Error(c, text, ok)
		}
	}
	for _, s := range wrongSoundings() {
		if text, ok := impl.SoundingText(s); ok || text != "" {
			t.Error(s, text, ok)
		}
	}
}

func TestP8SoundingTextsRoundTrip(t *testing.T) {
	check := func(s impl.Sounding) {
		t.Helper()
		plain := fmt.Sprintf("%d@%d,%d:%d+-%d", s.Id, s.At.X, s.At.Y, s.Depth, s.Doubt)
		valid := impl.IsSounding(s)
		if text, ok := impl.SoundingText(s); ok != valid || ok && text != plain || !ok && text != "" {
			t.Error("text", s, text, ok)
		}
		if got, ok := impl.ParseSounding(plain); ok != valid || ok && got != s || !ok && got != (impl.Sounding{}) {
			t.Error("parsed", plain, got, ok)
		}
	}
	for _, s := range append(goodSoundings(), wrongSoundings()...) {
		check(s)
	}
	for n := -1100; n <= 20100; n++ {
		check(buoyedWith(func(s *impl.Sounding) { s.Id = n }))
		check(buoyedWith(func(s *impl.Sounding) { s.At.X = n }))
		check(buoyedWith(func(s *impl.Sounding) { s.At.Y = n }))
		check(buoyedWith(func(s *impl.Sounding) { s.Depth = n }))
		check(buoyedWith(func(s *impl.Sounding) { s.Doubt = n }))
	}
}

// wrongSoundingTexts are of no Sounding.
func wrongSoundingTexts() []string {
	good := "21@100,200:-30+-5"
	texts := []string{
		"", " ", "@,:+-", "@,:+", "21", "21@", "21@100", "21@100,", "21@100,200", "21@100,200:", "21@100,200:-30", "21@100,200:-30+", "21@100,200:-30+-", "@100,200:-30+-5",
		"21@,200:-30+-5", "21@100,:-30+-5", "21@100,200:+-5", "21@100,200:-+-5", "21@200:-30+-5", "100,200:-30+-5", "21@100,200+-5", "21,100@200:-30+-5", "21@100:200,-30+-5", "21:100,200@-30+-5",
		// Other marks.
		"21@100,200:-30+5", "21@100,200:-30-5", "21@100,200:-30-+5", "21@100,200:-30--5", "21@100,200:-30++5", "21@100,200:-30+--5", "21@100,200:-30+-+5", "21@100,200:-30 +-5", "21@100,200:-30+ -5",
		"21@100;200:-30+-5", "21@100.200:-30+-5", "21@100,200;-30+-5", "21#100,200:-30+-5", "21@100,200:-30±5", "21@@100,200:-30+-5", "21@100,,200:-30+-5", "21@100,200::-30+-5", "21@100,200:-30+-+-5",
		// Leading zeros and signs.
		"021@100,200:-30+-5", "21@0100,200:-30+-5", "21@100,0200:-30+-5", "21@100,200:-030+-5", "21@100,200:-30+-05", "21@00,200:-30+-5", "21@100,00:-30+-5", "21@100,200:00+-5", "21@100,200:-30+-00",
		"+21@100,200:-30+-5", "21@+100,200:-30+-5", "21@100,+200:-30+-5", "21@100,200:+30+-5", "21@100,200:-0+-5", "21@100,200:--30+-5", "21@-0,200:-30+-5", "21@100,-0:-30+-5", "21@100,200:-30+--0", "-0@100,200:-30+-5",
		// Further parts, and more than one.
		good + " ", " " + good, good + "\n", "\n" + good, good + "\x00", good + "+-5", good + "+", good + "-", good + ",", good + ":", good + "@", good + good, good + " " + good, good + "000",
		"1" + good + "@", "21@100,200,300:-30+-5", "21@100,200:-30:-30+-5", "21@100@100,200:-30+-5", "21@100,200:-30+-5+-5",
		// Other spellings of numbers.
		"0x15@100,200:-30+-5", "21@1e2,200:-30+-5", "21@100,200:-30.0+-5", "21@1_00,200:-30+-5", "21@100,200:-30+-5.", "2 1@100,200:-30+-5", "21@\uff11,200:-30+-5", "21@100,200:\u221230+-5", "21@100,200:-30+-\xff", "a@b,c:d+-e",
		// Beyond a limit, by one or by far.
		"0@100,200:-30+-5", "1000@100,200:-30+-5", "-21@100,200:-30+-5", "21@1001,200:-30+-5", "21@-1,200:-30+-5", "21@100,1001:-30+-5", "21@100,-1:-30+-5", "21@100,200:-1001+-5", "21@100,200:20001+-5", "21@100,200:-30+-501", "21@100,200:-30+--1",
	}
	// Too long for an int, also such that come out right if they wrap around.
	for _, long := range []string{"9223372036854775807", "9223372036854775808", "-9223372036854775808", "-9223372036854775809", "18446744073709551617", "18446744073709551637", "1" + strings.Repeat("0", 100), strings.Repeat("9", 5000), strings.Repeat("0", 5000) + "1"} {
		texts = append(texts, long+"@100,200:-30+-5", "21@"+long+",200:-30+-5", "21@100,"+long+":-30+-5", "21@100,200:"+long+"+-5", "21@100,200:-30+-"+long, long)
	}
	return texts
}

func TestP8ParseSounding(t *testing.T) {
	for _, c := range []struct {
		text string
		want impl.Sounding
	}{
		{"21@100,200:-30+-5", buoyed()}, {"1@0,0:0+-0", impl.Sounding{Id: 1}}, {"999@1000,1000:20000+-500", impl.Sounding{Id: 999, At: impl.Spot{X: 1000, Y: 1000}, Depth: 20000, Doubt: 500}},
		{"999@1000,0:-1000+-500", impl.Sounding{Id: 999, At: impl.Spot{X: 1000}, Depth: -1000, Doubt: 500}}, {"7@10,20:800+-10", impl.Sounding{Id: 7, At: impl.Spot{X: 10, Y: 20}, Depth: 800, Doubt: 10}},
	} {
		if s, ok := impl.ParseSounding(c.text); !ok || s != c.want {
			t.Error(c, s, ok)
		}
	}
	for _, text := range wrongSoundingTexts() {
		if s, ok := impl.ParseSounding(text); ok || s != (impl.Sounding{}) {
			t.Error("parsed", text, s)
		}
	}
}

func TestP8ParseSoundingReadsWhatSoundingTextWritesOnly(t *testing.T) {
	// Each text that differs in one byte is either that of another Sounding or of none.
	check := func(text string) {
		t.Helper()
		s, ok := impl.ParseSounding(text)
		if !ok && s != (impl.Sounding{}) {
			t.Error("no text", text, s)
		}
		if again, isText := impl.SoundingText(s); ok && (!isText || again != text) {
			t.Error("another text", text, s, again)
		}
	}
	for _, s := range goodSoundings() {
		text, _ := impl.SoundingText(s)
		for i := range len(text) + 1 {
			for b := range 256 {
				c := string([]byte{byte(b)})
				check(text[:i] + c + text[i:])
				if i < len(text) {
					check(text[:i] + c + text[i+1:])
				}
			}
			if i < len(text) {
				check(text[:i] + text[i+1:])
			}
			check(text[:i])
			check(text[i:])
		}
	}
}

func TestP29SoundingFunctionsLeaveTheirArguments(t *testing.T) {
	// What lies behind the length of the list is neither read nor written.
	whole := append(intervalsOf(100, 10, 90, 5, 95, 0, 120, 40), impl.Sounding{Id: 1000}, impl.Sounding{Id: 1}, buoyed())
	before := slices.Clone(whole)
	lowest := []int{0, 90, 85, 85, 80}
	for size := range len(whole) + 1 {
		list := whole[:size]
		valid := size <= 4
		found := valid && size > 0
		if impl.AreSoundings(list) != valid {
			t.Error("AreSoundings", size)
		}
		if agree, ok := impl.DoAgree(list, 7, 14); ok != (valid && size >= 2) || agree != ok {
			t.Error("DoAgree", size, agree, ok)
		}
		if low, high, ok := impl.AllAgree(list); ok != found || ok && (low != []int{0, 90, 90, 95, 95}[size] || high != []int{0, 110, 95, 95, 95}[size]) {
			t.Error("AllAgree", size, low, high, ok)
		}
		if id, ok := impl.ShoalestIn(list, impl.Box{East: 1000, North: 1000}); ok != found || ok && id != []int{0, 7, 14, 14, 28}[size] {
			t.Error("ShoalestIn", size, id, ok)
		}
		if n, ok := impl.SupportedDepth(list, impl.Spot{}, 1000); ok != found || ok && n != lowest[size] {
			t.Error("SupportedDepth", size, n, ok)
		}
		if num, den, ok := impl.MeanDepth(list); ok != found || ok && (num != []int{0, 100, 95, 95, 405}[size] || den != []int{0, 1, 1, 1, 4}[size]) {
			t.Error("MeanDepth", size, num, den, ok)
		}
		if lowered, ok := impl.LowerAll(list, 3, 2); ok != valid || ok && (len(lowered) != size || size > 0 && lowered[size-1].Depth != before[size-1].Depth+3) {
			t.Error("LowerAll", size, lowered, ok)
		}
	}
	if !slices.Equal(whole, before) {
		t.Error("the soundings are now", whole)
	}
}

func TestP29SoundingResultsShareNothing(t *testing.T) {
	for _, c := range []struct{ by, doubt int }{{0, 0}, {5, 0}, {0, 1}, {-5, 3}} {
		for _, count := range []int{0, 1, 3, 5} {
			// The list has room behind its length, in which no result may lie.
			room := make([]impl.Sounding, count, impl.MaxSoundings)
			copy(room, manySoundings(count))
			lowered, isLowered := impl.LowerAll(room, c.by, c.doubt)
			other, isOther := impl.LowerAll(room, c.by, c.doubt)
			want := slices.Clone(other)
			if !isLowered || !isOther || !slices.Equal(lowered, want) || len(lowered) != count {
				t.Fatal("not lowered", lowered, other)
			}
			for i := range lowered {
				lowered[i] = impl.Sounding{Id: -7}
			}
			_ = append(lowered, impl.Sounding{Id: -8})
			if !slices.Equal(other, want) {
				t.Error("the other result is now", other)
			}
			if !slices.Equal(room[:impl.MaxSoundings], append(manySoundings(count), make([]impl.Sounding, impl.MaxSoundings-count)...)) {
				t.Error("the soundings are now", room[:impl.MaxSoundings])
			}
		}
	}
}

func TestP29SoundingFunctionsReturnForAllArguments(t *testing.T) {
	numbers := []int{math.MinInt, -30001, -30000, -1000, -500, -1, 0, 1, 7, 14, 500, 501, 999, 1000, 1001, 20000, 30000, 30001, math.MaxInt}
	for _, a := range numbers {
		for _, b := range numbers {
			checkSoundings(t, nil, a, b)
			checkSoundings(t, manySoundings(12), a, b)
			checkSoundings(t, manySoundings(13), a, b)
			checkSoundings(t, intervalsOf(a, b), a, b)
			checkSoundings(t, intervalsOf(a, 10, b, 10), b, a)
			checkSoundings(t, soundingsOf(a, b, 100, 5), b, a)
			checkSoundings(t, []impl.Sounding{{Id: a, Depth: b}, {Id: b, Depth: a}}, a, b)
		}
	}
	for _, text := range []string{"", "\x00", everyByte(), strings.Repeat("21@100,200:-30+-5", 1000), strings.Repeat("@,:+-", 100000), strings.Repeat("1", 1000000)} {
		if s, ok := impl.ParseSounding(text); ok || s != (impl.Sounding{}) {
			t.Error("parsed", len(text), s)
		}
	}
}

// checkSoundings tells whether the functions of a list return something only if they succeed.
func checkSoundings(t *testing.T, list []impl.Sounding, a, b int) {
	t.Helper()
	valid := impl.AreSoundings(list)
	if agree, ok := impl.DoAgree(list, a, b); ok && !valid || !ok && agree {
		t.Error("agree", list, a, b, agree, ok)
	}
	low, high, ok := impl.AllAgree(list)
	if ok && (!valid || low > high) || !ok && (low != 0 || high != 0) {
		t.Error("all", list, low, high, ok)
	}
	id, ok := impl.ShoalestIn(list, impl.Box{West: a, South: a, East: b, North: b})
	if ok && (!valid || id < 1) || !ok && id != 0 {
		t.Error("shoalest", list, a, b, id, ok)
	}
	n, ok := impl.SupportedDepth(list, impl.Spot{X: a, Y: b}, b)
	if ok && (!valid || n < -1500) || !ok && n != 0 {
		t.Error("supported", list, a, b, n, ok)
	}
	num, den, ok := impl.MeanDepth(list)
	if ok != (valid && len(list) > 0) || ok && den < 1 || !ok && (num != 0 || den != 0) {
		t.Error("mean", list, num, den, ok)
	}
	lowered, ok := impl.LowerAll(list, a, b)
	if ok && (!valid || !impl.AreSoundings(lowered)) || !ok && len(lowered) != 0 {
		t.Error("lowered", list, a, b, lowered, ok)
	}
	for _, s := range list {
		isSounding := impl.IsSounding(s)
		text, ok := impl.SoundingText(s)
		if ok != isSounding || !ok && text != "" {
			t.Error("text", s, text, ok)
		}
		if read, ok := impl.ParseSounding(text); ok != isSounding || ok && read != s || !ok && read != (impl.Sounding{}) {
			t.Error("parsed", text, read, ok)
		}
	}
}
