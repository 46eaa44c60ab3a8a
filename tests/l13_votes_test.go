package tests

import (
	"cmp"
	"math"
	"math/big"
	"slices"
	"testing"

	"loop.example/g01031/impl"
)

// sampleVotes are three hypotheses with 3, 1 and 1 votes for a width of 10.
func sampleVotes() []int { return []int{812, 800, 1500, 805, 900} }

// hypothesesFrom returns hypotheses from three numbers each: Low, High and Votes.
func hypothesesFrom(numbers ...int) []impl.Hypothesis {
	list := []impl.Hypothesis{}
	for i := 0; i+2 < len(numbers); i += 3 {
		list = append(list, impl.Hypothesis{Low: numbers[i], High: numbers[i+1], Votes: numbers[i+2]})
	}
	return list
}

// stairs returns so many depths, each by a step greater than the one before it.
func stairs(count, first, step int) []int {
	votes := []int{}
	for i := range count {
		votes = append(votes, first+i*step)
	}
	return votes
}

// backwards returns a list from its end to its beginning.
func backwards(list []int) []int {
	list = slices.Clone(list)
	slices.Reverse(list)
	return list
}

// goodVotes are valid, from one vote to the most.
func goodVotes() [][]int {
	lists := [][]int{
		sampleVotes(), {5}, {0}, {-1}, {5, 5}, {5, 6}, {6, 5}, {7, 7, 7}, {0, 10, 20}, {20, 10, 0}, {0, 10, 21}, {21, 10, 0}, {0, 11, 21},
		// The least and the greatest depths and those beside them.
		{-1000}, {-999}, {19999}, {20000}, {-1000, 20000}, {20000, -1000}, {-1000, -999, 19999, 20000}, {20000, 19999, -999, -1000}, {-1000, -1000, 20000, 20000, 20000}, {20000, 0, -1000},
		// Several hypotheses with the same number of votes, also ones that the votes name later first.
		{100, 500, 100, 500}, {500, 100, 500, 100}, {900, 500, 100}, {900, 905, 500, 505, 100}, {900, 500, 505, 100, 105}, {3, 3, 3, 50, 51, 52, 99, 99, 99},
		// Votes for weak hypotheses between those for strong ones.
		{500, 100, 505, 900, 510}, {100, 500, 105, 510, 110, 900, 505, 115}, {900, 500, 100, 500, 900, 500},
		// Steps that differ by just the greatest width, by a centimeter less and by one more.
		{0, 1000}, {0, 999}, {0, 1001}, {0, 1000, 2001}, {0, 1001, 2001}, {3000, 2000, 1000, 0, -1000}, {0, 5000, 12000, 20000},
		// Depths that dry and ones that do not.
		{-5, 5}, {-500, 500, -499, 499}, {-20, -10, 0, 10, 20}, {-30, -1, 1, 30},
		evenTrack(20, 7), evenTrack(20, 20000), evenTrack(20, -1000), zigzag(20, 100, 50), zigzag(20, 20000, -1000), zigzag(19, 0, 1), zigzag(19, 1, 0),
		stairs(20, 0, 1), stairs(20, 0, 1000), stairs(20, 0, 1001), stairs(20, -1000, 1000), stairs(20, -5, 50), stairs(19, 20000, -999), stairs(20, 100, -7), backwards(stairs(20, 0, 1000)), backwards(stairs(20, 0, 1001)),
	}
	for count := 1; count <= impl.MaxVotes; count++ {
		lists = append(lists, manyDepths(count), manyDepths(count + 9)[9:], backwards(manyDepths(count)))
	}
	return lists
}

// wrongVotes are none, too many, or have one that is no depth.
func wrongVotes() [][]int {
	lists := [][]int{nil, {}, evenTrack(21, 5), manyDepths(21), manyDepths(22), evenTrack(40, 0), stairs(1000, 0, 1)}
	for _, n := range append([]int{-1002, -5000, 20002, 30000, 1 << 62, -1 << 62, 1<<32 + 5}, wrongDepths...) {
		lists = append(lists, []int{n}, []int{n, n}, evenTrack(20, n))
		for _, count := range []int{2, 3, 20} {
			for i := range count {
				votes := manyDepths(count)
				votes[i] = n
				lists = append(lists, votes)
			}
		}
	}
	return lists
}

// wrongWidths are beyond a limit, by one or by far.
var wrongWidths = []int{math.MinInt, math.MinInt + 1, -1000, -10, -2, -1, 1001, 1002, 2000, 21000, math.MaxInt - 1, math.MaxInt, 1 << 62, -1 << 62, 1<<32 + 10}

// wrongStrongs are beyond a limit, by one or by far.
var wrongStrongs = []int{math.MinInt, math.MinInt + 1, -20, -2, -1, 0, 21, 22, 40, 1000, math.MaxInt - 1, math.MaxInt, 1 << 62, -1 << 62, 1<<32 + 1}

// widthsAround returns the widths at the ends and around those by which two depths just differ.
func widthsAround(votes []int) []int {
	widths := []int{0, 1, 2, 10, 999, 1000}
	for _, a := range votes {
		for _, b := range votes {
			for width := a - b - 1; width <= a-b+1; width++ {
				if 0 <= width && width <= 1000 {
					widths = append(widths, width)
				}
			}
		}
	}
	slices.Sort(widths)
	return slices.Compact(widths)
}

// plainGrown widens a vote by all that are near enough to what it has, until none is, and counts the votes in it.
func plainGrown(votes []int, width, vote int) impl.Hypothesis {
	h := impl.Hypothesis{Low: vote, High: vote}
	for before := (impl.Hypothesis{Votes: -1}); before != h; {
		before = h
		for _, v := range votes {
			if h.Low-width <= v && v <= h.High+width {
				h.Low, h.High = min(h.Low, v), max(h.High, v)
			}
		}
	}
	for _, v := range votes {
		if h.Low <= v && v <= h.High {
			h.Votes++
		}
	}
	return h
}

// plainHypotheses returns what becomes of each vote, once.
func plainHypotheses(votes []int, width int) []impl.Hypothesis {
	found := []impl.Hypothesis{}
	for _, vote := range votes {
		if h := plainGrown(votes, width, vote); !slices.Contains(found, h) {
			found = append(found, h)
		}
	}
	slices.SortFunc(found, func(a, b impl.Hypothesis) int { return cmp.Compare(a.Low, b.Low) })
	return found
}

// plainStrongest tries all numbers of votes, the greatest ones first.
func plainStrongest(votes []int, width int) impl.Hypothesis {
	for count := len(votes); count > 0; count-- {
		for _, h := range plainHypotheses(votes, width) {
			if h.Votes == count {
				return h
			}
		}
	}
	return impl.Hypothesis{}
}

// plainWithoutWeak asks for each vote how many are with it.
func plainWithoutWeak(votes []int, width, strong int) []int {
	kept := []int{}
	for _, vote := range votes {
		if plainGrown(votes, width, vote).Votes >= strong {
			kept = append(kept, vote)
		}
	}
	return kept
}

// plainNarrowest widens until all votes are with the first one.
func plainNarrowest(votes []int) int {
	width := 0
	for plainGrown(votes, width, votes[0]).Votes < len(votes) {
		width++
	}
	return width
}

// plainMedian returns the least vote that at least half of the votes are not greater than.
func plainMedian(votes []int) int {
	median := math.MaxInt
	for _, vote := range votes {
		count := 0
		for _, v := range votes {
			if v <= vote {
				count++
			}
		}
		if 2*count >= len(votes) {
			median = min(median, vote)
		}
	}
	return median
}

// plainSplits returns what lies beside each gap.
func plainSplits(votes []int, width int) [][2]int {
	splits := [][2]int{}
	list := plainHypotheses(votes, width)
	for i := 1; i < len(list); i++ {
		splits = append(splits, [2]int{list[i-1].High, list[i].Low})
	}
	return splits
}

func TestP13AreVotes(t *testing.T) {
	for _, votes := range goodVotes() {
		if !impl.AreVotes(votes) {
			t.Error(votes)
		}
	}
	for _, votes := range wrongVotes() {
		if impl.AreVotes(votes) {
			t.Error(votes)
		}
	}
	for count := range 100 {
		if impl.AreVotes(evenTrack(count, 5)) != (1 <= count && count <= 20) {
			t.Error(count)
		}
	}
	if impl.MaxVotes != 20 {
		t.Error(impl.MaxVotes)
	}
}

func TestP13TheWrongVoteOfAFullListIsFound(t *testing.T) {
	for i := range impl.MaxVotes {
		for depth, want := range map[int]bool{-1001: false, -1000: true, -999: true, 0: true, 19999: true, 20000: true, 20001: false, math.MinInt: false, math.MaxInt: false} {
			votes := manyDepths(impl.MaxVotes)
			votes[i] = depth
			if impl.AreVotes(votes) != want {
				t.Error(i, depth)
			}
		}
	}
}

func TestP13HypothesesOf(t *testing.T) {
	x := sampleVotes()
	for _, c := range []struct {
		votes []int
		width int
		want  []impl.Hypothesis
	}{
		{x, 10, hypothesesFrom(800, 812, 3, 900, 900, 1, 1500, 1500, 1)}, {x, 7, hypothesesFrom(800, 812, 3, 900, 900, 1, 1500, 1500, 1)}, {x, 6, hypothesesFrom(800, 805, 2, 812, 812, 1, 900, 900, 1, 1500, 1500, 1)}, {x, 5, hypothesesFrom(800, 805, 2, 812, 812, 1, 900, 900, 1, 1500, 1500, 1)}, {x, 4, hypothesesFrom(800, 800, 1, 805, 805, 1, 812, 812, 1, 900, 900, 1, 1500, 1500, 1)}, {x, 0, hypothesesFrom(800, 800, 1, 805, 805, 1, 812, 812, 1, 900, 900, 1, 1500, 1500, 1)},
		{x, 87, hypothesesFrom(800, 812, 3, 900, 900, 1, 1500, 1500, 1)}, {x, 88, hypothesesFrom(800, 900, 4, 1500, 1500, 1)}, {x, 599, hypothesesFrom(800, 900, 4, 1500, 1500, 1)}, {x, 600, hypothesesFrom(800, 1500, 5)}, {x, 1000, hypothesesFrom(800, 1500, 5)},
		// One vote.
		{[]int{5}, 0, hypothesesFrom(5, 5, 1)}, {[]int{5}, 1000, hypothesesFrom(5, 5, 1)}, {[]int{-1000}, 0, hypothesesFrom(-1000, -1000, 1)}, {[]int{20000}, 1000, hypothesesFrom(20000, 20000, 1)}, {[]int{0}, 1, hypothesesFrom(0, 0, 1)},
		// Equal depths, beside each other and apart.
		{[]int{5, 5}, 0, hypothesesFrom(5, 5, 2)}, {[]int{5, 5, 5}, 0, hypothesesFrom(5, 5, 3)}, {[]int{5, 6, 5}, 0, hypothesesFrom(5, 5, 2, 6, 6, 1)}, {[]int{6, 5, 6, 5}, 0, hypothesesFrom(5, 5, 2, 6, 6, 2)}, {[]int{6, 5, 6, 5}, 1, hypothesesFrom(5, 6, 4)}, {[]int{9, 5, 9, 7, 5, 9}, 1, hypothesesFrom(5, 5, 2, 7, 7, 1, 9, 9, 3)}, {[]int{9, 5, 9, 7, 5, 9}, 2, hypothesesFrom(5, 9, 6)}, {[]int{-5, 5}, 0, hypothesesFrom(-5, -5, 1, 5, 5, 1)}, {[]int{0, -1, 0, 1}, 0, hypothesesFrom(-1, -1, 1, 0, 0, 2, 1, 1, 1)}, {evenTrack(20, 7), 0, hypothesesFrom(7, 7, 20)}, {evenTrack(20, 7), 1000, hypothesesFrom(7, 7, 20)}, {evenTrack(20, -1000), 0, hypothesesFrom(-1000, -1000, 20)},
		// Just the width, a centimeter more and one less.
		{[]int{0, 10}, 10, hypothesesFrom(0, 10, 2)}, {[]int{0, 11}, 10, hypothesesFrom(0, 0, 1, 11, 11, 1)}, {[]int{0, 9}, 10, hypothesesFrom(0, 9, 2)}, {[]int{11, 0}, 10, hypothesesFrom(0, 0, 1, 11, 11, 1)}, {[]int{0, 1}, 0, hypothesesFrom(0, 0, 1, 1, 1, 1)}, {[]int{0, 1}, 1, hypothesesFrom(0, 1, 2)}, {[]int{0, 2}, 1, hypothesesFrom(0, 0, 1, 2, 2, 1)}, {[]int{-5, 5}, 10, hypothesesFrom(-5, 5, 2)}, {[]int{-5, 5}, 9, hypothesesFrom(-5, -5, 1, 5, 5, 1)},
		{[]int{0, 1000}, 1000, hypothesesFrom(0, 1000, 2)}, {[]int{0, 1001}, 1000, hypothesesFrom(0, 0, 1, 1001, 1001, 1)}, {[]int{0, 1000}, 999, hypothesesFrom(0, 0, 1, 1000, 1000, 1)}, {[]int{0, 999}, 999, hypothesesFrom(0, 999, 2)}, {[]int{0, 999}, 1000, hypothesesFrom(0, 999, 2)},
		// Each depth is near the one before it, and far from the first one.
		{[]int{0, 10, 20}, 10, hypothesesFrom(0, 20, 3)}, {[]int{20, 10, 0}, 10, hypothesesFrom(0, 20, 3)}, {[]int{20, 0, 10}, 10, hypothesesFrom(0, 20, 3)}, {[]int{0, 20, 10}, 10, hypothesesFrom(0, 20, 3)}, {[]int{0, 10, 21}, 10, hypothesesFrom(0, 10, 2, 21, 21, 1)}, {[]int{0, 11, 21}, 10, hypothesesFrom(0, 0, 1, 11, 21, 2)}, {[]int{0, 10, 21, 31}, 10, hypothesesFrom(0, 10, 2, 21, 31, 2)},
		{stairs(20, 0, 1000), 1000, hypothesesFrom(0, 19000, 20)}, {backwards(stairs(20, 0, 1000)), 1000, hypothesesFrom(0, 19000, 20)}, {stairs(20, -1000, 1000), 1000, hypothesesFrom(-1000, 18000, 20)},
		// The least and the greatest depths.
		{[]int{-1000, 20000}, 1000, hypothesesFrom(-1000, -1000, 1, 20000, 20000, 1)}, {[]int{20000, -999, 19999, -1000}, 1, hypothesesFrom(-1000, -999, 2, 19999, 20000, 2)}, {[]int{20000, -999, 19999, -1000}, 0, hypothesesFrom(-1000, -1000, 1, -999, -999, 1, 19999, 19999, 1, 20000, 20000, 1)}, {zigzag(20, 20000, -1000), 1000, hypothesesFrom(-1000, -1000, 10, 20000, 20000, 10)},
	} {
		if list, ok := impl.HypothesesOf(c.votes, c.width); !ok || !slices.Equal(list, c.want) {
			t.Error(c, list, ok)
		}
	}
}

func TestP13EachVoteItsOwnHypothesis(t *testing.T) {
	for count := 1; count <= impl.MaxVotes; count++ {
		for _, step := range []int{1, 2, 11, 500, 1000, 1001} {
			for _, votes := range [][]int{stairs(count, -1000, step), backwards(stairs(count, -1000, step))} {
				want := []impl.Hypothesis{}
				for _, depth := range stairs(count, -1000, step) {
					want = append(want, impl.Hypothesis{Low: depth, High: depth, Votes: 1})
				}
				if list, ok := impl.HypothesesOf(votes, step-1); !ok || !slices.Equal(list, want) {
					t.Error(votes, list, ok)
				}
				if step > 1000 {
					continue
				}
				one := hypothesesFrom(-1000, -1000+(count-1)*step, count)
				if list, ok := impl.HypothesesOf(votes, step); !ok || !slices.Equal(list, one) {
					t.Error(votes, list, ok)
				}
			}
		}
	}
}

// checkVotes compares all that is told of some votes for a width with what the plain functions tell.
func checkVotes(t *testing.T, votes []int, width int) {
	t.Helper()
	list := plainHypotheses(votes, width)
	if got, ok := impl.HypothesesOf(votes, width); !ok || !slices.Equal(got, list) {
		t.Error("hypotheses", votes, width, got, ok)
	}
	strongest := plainStrongest(votes, width)
	if got, ok := impl.StrongestOf(votes, width); !ok || got != strongest {
		t.Error("strongest", votes, width, got, ok)
	}
	num, den, ok := impl.AmbiguityOf(votes, width)
	if !ok || !isExactly(num, den, big.NewRat(int64(len(votes)-strongest.Votes), int64(len(votes)))) {
		t.Error("ambiguity", votes, width, num, den, ok)
	}
	if splits, ok := impl.SplitsAt(votes, width); !ok || !slices.Equal(splits, plainSplits(votes, width)) {
		t.Error("splits", votes, width, splits, ok)
	}
	for strong := 1; strong <= impl.MaxVotes; strong++ {
		kept := plainWithoutWeak(votes, width, strong)
		got, ok := impl.WithoutWeak(votes, width, strong)
		if ok != (len(kept) > 0) || !slices.Equal(got, kept) {
			t.Error("without weak", votes, width, strong, got, ok)
		}
		safe := 0
		if len(kept) > 0 {
			safe = slices.Min(kept)
		}
		if got, ok := impl.SafeDepth(votes, width, strong); ok != (len(kept) > 0) || got != safe {
			t.Error("safe", votes, width, strong, got, ok)
		}
	}
}

func TestP13EveryHypothesisOfManyVotes(t *testing.T) {
	for _, votes := range goodVotes() {
		for _, width := range widthsAround(votes) {
			checkVotes(t, votes, width)
		}
	}
	for size := 1; size <= 4; size++ {
		for _, votes := range tracksWith(size, 0, 1, 2, 4, 7) {
			for width := range 5 {
				checkVotes(t, votes, width)
			}
		}
	}
	for _, votes := range tracksWith(6, -3, 0, 1) {
		for width := range 4 {
			checkVotes(t, votes, width)
		}
	}
}

func TestP13EveryWidth(t *testing.T) {
	// Two depths that differ by each number, which one width meets exactly.
	for step := range 1003 {
		for width := max(0, step-2); width <= min(1000, step+2); width++ {
			for _, votes := range [][]int{{7, 7 + step}, {7 + step, 7}, {-1000, -1000 + step}, {20000, 20000 - step}} {
				list, ok := impl.HypothesesOf(votes, width)
				if !ok || (len(list) == 1) != (step <= width) || len(list) > 2 {
					t.Fatal(votes, width, list, ok)
				}
			}
		}
	}
}

func TestP13WithAGreaterWidthThereAreNoMoreHypotheses(t *testing.T) {
	check := func(votes []int, widest int) {
		t.Helper()
		narrower, ok := impl.HypothesesOf(votes, 0)
		if !ok {
			t.Error(votes)
		}
		for width := 1; width <= widest; width++ {
			wider, ok := impl.HypothesesOf(votes, width)
			if !ok || len(wider) > len(narrower) {
				t.Fatal(votes, width, wider, narrower)
			}
			// Each of the narrower ones lies in one of the wider ones.
			for _, n := range narrower {
				if !slices.ContainsFunc(wider, func(w impl.Hypothesis) bool { return w.Low <= n.Low && n.High <= w.High && n.Votes <= w.Votes }) {
					t.Fatal(votes, width, n, wider)
				}
			}
			narrower = wider
		}
	}
	for _, votes := range goodVotes() {
		check(votes, 1000)
	}
	for size := 1; size <= 5; size++ {
		for _, votes := range tracksWith(size, 0, 1, 3, 6, 10) {
			check(votes, 6)
		}
	}
}

func TestP13HypothesesHaveAllVotesAndAreApart(t *testing.T) {
	for _, votes := range goodVotes() {
		for _, width := range widthsAround(votes) {
			list, _ := impl.HypothesesOf(votes, width)
			sum := 0
			for i, h := range list {
				sum += h.Votes
				if h.Votes < 1 || h.High < h.Low || !slices.Contains(votes, h.Low) || !slices.Contains(votes, h.High) {
					t.Error(votes, width, h)
				}
				if i > 0 && h.Low-list[i-1].High <= width {
					t.Error("not apart", votes, width, list)
				}
			}
			if sum != len(votes) {
				t.Error("not all votes", votes, width, list)
			}
			if splits, ok := impl.SplitsAt(votes, width); !ok || len(splits) != len(list)-1 {
				t.Error("splits", votes, width, splits, ok)
			}
		}
	}
}

func TestP13TheOrderOfVotesChangesNothing(t *testing.T) {
	for _, votes := range goodVotes() {
		ascending := slices.Sorted(slices.Values(votes))
		turned := append(slices.Clone(votes[len(votes)/2:]), votes[:len(votes)/2]...)
		for _, other := range [][]int{ascending, backwards(ascending), turned, backwards(votes)} {
			for _, width := range []int{0, 1, 10, 50, 999, 1000} {
				list, _ := impl.HypothesesOf(votes, width)
				if got, ok := impl.HypothesesOf(other, width); !ok || !slices.Equal(got, list) {
					t.Error("hypotheses", votes, other, width, got, ok)
				}
				strongest, _ := impl.StrongestOf(votes, width)
				if got, ok := impl.StrongestOf(other, width); !ok || got != strongest {
					t.Error("strongest", votes, other, width, got, ok)
				}
				safe, isSafe := impl.SafeDepth(votes, width, 2)
				if got, ok := impl.SafeDepth(other, width, 2); ok != isSafe || got != safe {
					t.Error("safe", votes, other, width, got, ok)
				}
				kept, _ := impl.WithoutWeak(votes, width, 2)
				got, _ := impl.WithoutWeak(other, width, 2)
				if slices.Sort(kept); !slices.Equal(slices.Sorted(slices.Values(got)), kept) {
					t.Error("without weak", votes, other, width, got)
				}
			}
			narrowest, _ := impl.NarrowestSingle(votes)
			if got, ok := impl.NarrowestSingle(other); !ok || got != narrowest {
				t.Error("narrowest", votes, other, got, ok)
			}
			median, _ := impl.MedianVote(votes)
			if got, ok := impl.MedianVote(other); !ok || got != median {
				t.Error("median", votes, other, got, ok)
			}
		}
	}
}

func TestP13WrongVotesWidthsAndNumbersAreRefused(t *testing.T) {
	checkStrong := func(votes []int, width, strong int) {
		t.Helper()
		if safe, ok := impl.SafeDepth(votes, width, strong); ok || safe != 0 {
			t.Error("safe", votes, width, strong, safe, ok)
		}
		if kept, ok := impl.WithoutWeak(votes, width, strong); ok || len(kept) != 0 {
			t.Error("without weak", votes, width, strong, kept, ok)
		}
	}
	checkWidth := func(votes []int, width int) {
		t.Helper()
		if list, ok := impl.HypothesesOf(votes, width); ok || len(list) != 0 {
			t.Error("hypotheses", votes, width, list, ok)
		}
		if h, ok := impl.StrongestOf(votes, width); ok || h != (impl.Hypothesis{}) {
			t.Error("strongest", votes, width, h, ok)
		}
		if num, den, ok := impl.AmbiguityOf(votes, width); ok || num != 0 || den != 0 {
			t.Error("ambiguity", votes, width, num, den, ok)
		}
		if splits, ok := impl.SplitsAt(votes, width); ok || len(splits) != 0 {
			t.Error("splits", votes, width, splits, ok)
		}
		for _, strong := range []int{1, 2, 20, 0, 21} {
			checkStrong(votes, width, strong)
		}
	}
	for _, votes := range wrongVotes() {
		for _, width := range []int{0, 1, 10, 1000, -1, 1001} {
			checkWidth(votes, width)
		}
		if n, ok := impl.NarrowestSingle(votes); ok || n != 0 {
			t.Error("narrowest", votes, n, ok)
		}
		if n, ok := impl.MedianVote(votes); ok || n != 0 {
			t.Error("median", votes, n, ok)
		}
		for _, depth := range []int{0, 5, -1000, 20000, -1001, 20001} {
			if more, ok := impl.AddVote(votes, depth); ok || len(more) != 0 {
				t.Error("added", votes, depth, more, ok)
			}
		}
	}
	for _, votes := range goodVotes() {
		for _, width := range wrongWidths {
			checkWidth(votes, width)
		}
		for _, strong := range wrongStrongs {
			for _, width := range []int{0, 10, 1000} {
				checkStrong(votes, width, strong)
			}
		}
	}
}

func TestP13StrongestOf(t *testing.T) {
	for _, c := range []struct {
		votes []int
		width int
		want  impl.Hypothesis
	}{
		{sampleVotes(), 10, impl.Hypothesis{Low: 800, High: 812, Votes: 3}}, {sampleVotes(), 6, impl.Hypothesis{Low: 800, High: 805, Votes: 2}}, {sampleVotes(), 88, impl.Hypothesis{Low: 800, High: 900, Votes: 4}}, {sampleVotes(), 1000, impl.Hypothesis{Low: 800, High: 1500, Votes: 5}},
		// Of several with as many votes the shoalest one, wherever its votes are.
		{sampleVotes(), 0, impl.Hypothesis{Low: 800, High: 800, Votes: 1}}, {[]int{900, 500, 100}, 10, impl.Hypothesis{Low: 100, High: 100, Votes: 1}}, {[]int{500, 100, 500, 100}, 10, impl.Hypothesis{Low: 100, High: 100, Votes: 2}}, {[]int{900, 905, 500, 505, 100}, 10, impl.Hypothesis{Low: 500, High: 505, Votes: 2}}, {[]int{0, -1}, 0, impl.Hypothesis{Low: -1, High: -1, Votes: 1}}, {zigzag(20, 20000, -1000), 1000, impl.Hypothesis{Low: -1000, High: -1000, Votes: 10}},
		// The deepest, the middle and the shoalest one has the most.
		{[]int{900, 901, 902, 500, 501, 100, 101}, 1, impl.Hypothesis{Low: 900, High: 902, Votes: 3}}, {[]int{900, 901, 500, 501, 502, 100, 101}, 1, impl.Hypothesis{Low: 500, High: 502, Votes: 3}}, {[]int{900, 901, 500, 501, 100, 101, 102}, 1, impl.Hypothesis{Low: 100, High: 102, Votes: 3}}, {zigzag(19, 20000, -1000), 1000, impl.Hypothesis{Low: 20000, High: 20000, Votes: 10}},
		// The most votes, not the most depths and not the greatest reach.
		{[]int{5, 5, 5, 100, 101}, 1, impl.Hypothesis{Low: 5, High: 5, Votes: 3}}, {[]int{100, 105, 5, 5, 5}, 10, impl.Hypothesis{Low: 5, High: 5, Votes: 3}}, {[]int{100, 110, 900, 900, 900}, 10, impl.Hypothesis{Low: 900, High: 900, Votes: 3}},
		{[]int{7}, 0, impl.Hypothesis{Low: 7, High: 7, Votes: 1}}, {[]int{0}, 1000, impl.Hypothesis{Votes: 1}}, {evenTrack(20, 0), 0, impl.Hypothesis{Votes: 20}}, {evenTrack(20, 20000), 1000, impl.Hypothesis{Low: 20000, High: 20000, Votes: 20}}, {stairs(20, 0, 1001), 1000, impl.Hypothesis{Votes: 1}},
	} {
		if h, ok := impl.StrongestOf(c.votes, c.width); !ok || h != c.want {
			t.Error(c, h, ok)
		}
	}
}

func TestP13SafeDepth(t *testing.T) {
	weakShoal := []int{100, 500, 505, 900, 901, 902}
	for _, c := range []struct {
		votes         []int
		width, strong int
		want          int
		ok            bool
	}{
		{sampleVotes(), 10, 1, 800, true}, {sampleVotes(), 10, 2, 800, true}, {sampleVotes(), 10, 3, 800, true}, {sampleVotes(), 10, 4, 0, false}, {sampleVotes(), 88, 4, 800, true}, {sampleVotes(), 88, 5, 0, false}, {sampleVotes(), 600, 5, 800, true}, {sampleVotes(), 600, 6, 0, false}, {sampleVotes(), 1000, 20, 0, false},
		// The shoalest one is weak, then the next one too.
		{weakShoal, 10, 1, 100, true}, {weakShoal, 10, 2, 500, true}, {weakShoal, 10, 3, 900, true}, {weakShoal, 10, 4, 0, false}, {weakShoal, 5, 2, 500, true}, {weakShoal, 4, 2, 900, true}, {weakShoal, 1, 3, 900, true}, {weakShoal, 0, 2, 0, false}, {weakShoal, 0, 1, 100, true}, {weakShoal, 400, 6, 100, true}, {weakShoal, 400, 7, 0, false}, {weakShoal, 399, 3, 500, true}, {weakShoal, 395, 5, 500, true}, {weakShoal, 394, 3, 900, true},
		// A deep one that is stronger is not safer than a shoal one that is strong.
		{[]int{100, 101, 900, 901, 902}, 1, 2, 100, true}, {[]int{902, 101, 900, 100, 901}, 1, 2, 100, true}, {[]int{902, 101, 900, 100, 901}, 1, 3, 900, true},
		// One vote, and as many as there may be.
		{[]int{5}, 0, 1, 5, true}, {[]int{5}, 0, 2, 0, false}, {[]int{5}, 1000, 20, 0, false}, {evenTrack(20, 5), 0, 20, 5, true}, {evenTrack(20, 5), 0, 19, 5, true}, {evenTrack(19, 5), 0, 19, 5, true}, {evenTrack(19, 5), 0, 20, 0, false}, {zigzag(20, 5, 6), 0, 10, 5, true}, {zigzag(20, 5, 6), 0, 11, 0, false}, {zigzag(19, 5, 6), 0, 10, 5, true}, {zigzag(19, 6, 5), 0, 10, 6, true}, {zigzag(20, 5, 6), 1, 20, 5, true},
		// Depths of 0, ones that dry, the least and the greatest one.
		{[]int{0, 0, 9}, 0, 2, 0, true}, {[]int{-30, -20, -20}, 0, 2, -20, true}, {[]int{-30, -20, -20}, 0, 1, -30, true}, {[]int{-30, -20, -20}, 0, 3, 0, false}, {[]int{-1000, 20000, 20000}, 1000, 1, -1000, true}, {[]int{-1000, 20000, 20000}, 1000, 2, 20000, true}, {[]int{-1000, 20000, -1000}, 1000, 2, -1000, true},
	} {
		if safe, ok := impl.SafeDepth(c.votes, c.width, c.strong); ok != c.ok || safe != c.want {
			t.Error(c, safe, ok)
		}
	}
}

func TestP13AmbiguityOf(t *testing.T) {
	for _, c := range []struct {
		votes           []int
		width, num, den int
	}{
		{sampleVotes(), 10, 2, 5}, {sampleVotes(), 6, 3, 5}, {sampleVotes(), 0, 4, 5}, {sampleVotes(), 88, 1, 5},
		// None is for another one.
		{sampleVotes(), 600, 0, 1}, {[]int{5}, 0, 0, 1}, {[]int{5}, 1000, 0, 1}, {[]int{0}, 0, 0, 1}, {evenTrack(20, 5), 0, 0, 1}, {stairs(20, 0, 1000), 1000, 0, 1}, {evenTrack(7, -3), 0, 0, 1},
		// Fractions that are reduced.
		{[]int{5, 5, 9, 9}, 0, 1, 2}, {[]int{5, 6}, 0, 1, 2}, {[]int{5, 5, 5, 9}, 0, 1, 4}, {[]int{5, 5, 7, 9}, 0, 1, 2}, {[]int{5, 5, 5, 5, 7, 9}, 0, 1, 3}, {[]int{5, 5, 7, 7, 9, 9}, 0, 2, 3}, {zigzag(20, 0, 9), 0, 1, 2}, {append(evenTrack(15, 3), stairs(5, 100, 100)...), 0, 1, 4}, {append(evenTrack(16, 3), stairs(4, 100, 100)...), 0, 1, 5}, {append(evenTrack(12, 3), stairs(8, 100, 100)...), 0, 2, 5}, {append(evenTrack(18, 3), 50, 90), 0, 1, 10},
		// Fractions that are not.
		{append(evenTrack(17, 3), 50, 90, 95), 0, 3, 20}, {stairs(20, 0, 1001), 1000, 19, 20}, {stairs(19, 0, 1), 0, 18, 19}, {append(evenTrack(19, 3), 4), 0, 1, 20}, {zigzag(19, 0, 9), 0, 9, 19}, {[]int{-5, 5, 9}, 0, 2, 3}, {[]int{-5, 5, 9}, 4, 1, 3},
	} {
		if num, den, ok := impl.AmbiguityOf(c.votes, c.width); !ok || num != c.num || den != c.den {
			t.Error(c, num, den, ok)
		}
	}
}

func TestP13AddVote(t *testing.T) {
	for _, votes := range goodVotes() {
		for _, depth := range append([]int{-1000, -999, 0, 5, 19999, 20000, -1002, 1<<32 + 5}, append(slices.Clone(wrongDepths), votes...)...) {
			more, ok := impl.AddVote(votes, depth)
			if ok != (len(votes) < 20 && -1000 <= depth && depth <= 20000) {
				t.Error(votes, depth, more, ok)
			}
			if ok && !slices.Equal(more, slices.Concat(votes, []int{depth})) || !ok && len(more) != 0 {
				t.Error(votes, depth, more, ok)
			}
			if ok != impl.AreVotes(slices.Concat(votes, []int{depth})) {
				t.Error("votes", votes, depth, ok)
			}
		}
	}
	// No votes are none to add to, full lists have no room, and one that is nearly full has.
	if more, ok := impl.AddVote(nil, 5); ok || len(more) != 0 {
		t.Error(more, ok)
	}
	if more, ok := impl.AddVote(evenTrack(19, 5), 5); !ok || !slices.Equal(more, evenTrack(20, 5)) {
		t.Error(more, ok)
	}
	if more, ok := impl.AddVote(evenTrack(20, 5), 5); ok || len(more) != 0 {
		t.Error(more, ok)
	}
}

func TestP13AVoteThatIsAddedCounts(t *testing.T) {
	for _, votes := range goodVotes() {
		for _, depth := range votes {
			more, ok := impl.AddVote(votes, depth)
			if !ok {
				continue
			}
			// One that is equal to another one is for the same Hypothesis with each width.
			for _, width := range []int{0, 10, 1000} {
				before, _ := impl.HypothesesOf(votes, width)
				behind, isValid := impl.HypothesesOf(more, width)
				for i, h := range before {
					if h.Low <= depth && depth <= h.High {
						before[i].Votes++
					}
				}
				if !isValid || !slices.Equal(behind, before) {
					t.Error(votes, depth, width, behind)
				}
			}
		}
	}
}

func TestP13WithoutWeak(t *testing.T) {
	between := []int{500, 100, 505, 900, 510}
	mixed := []int{100, 500, 105, 510, 110, 900, 505, 115}
	for _, c := range []struct {
		votes         []int
		width, strong int
		want          []int
	}{
		{sampleVotes(), 10, 2, []int{812, 800, 805}}, {sampleVotes(), 10, 3, []int{812, 800, 805}}, {sampleVotes(), 10, 1, sampleVotes()}, {sampleVotes(), 10, 4, nil}, {sampleVotes(), 88, 2, []int{812, 800, 805, 900}}, {sampleVotes(), 600, 5, sampleVotes()}, {sampleVotes(), 600, 6, nil}, {sampleVotes(), 0, 2, nil}, {sampleVotes(), 0, 1, sampleVotes()}, {sampleVotes(), 6, 2, []int{800, 805}},
		// Votes for weak ones between those for strong ones.
		{between, 5, 2, []int{500, 505, 510}}, {between, 5, 3, []int{500, 505, 510}}, {between, 5, 4, nil}, {between, 4, 2, nil}, {between, 400, 5, between}, {mixed, 5, 4, []int{100, 105, 110, 115}}, {mixed, 5, 3, []int{100, 500, 105, 510, 110, 505, 115}}, {mixed, 5, 2, []int{100, 500, 105, 510, 110, 505, 115}}, {mixed, 5, 1, mixed}, {mixed, 5, 5, nil},
		// The shoalest one is weak, or the deepest one, or both.
		{[]int{900, 500, 100, 500, 900, 500}, 0, 3, []int{500, 500, 500}}, {[]int{900, 500, 100, 500, 900, 500}, 0, 2, []int{900, 500, 500, 900, 500}}, {[]int{100, 100, 900, 500, 500}, 0, 2, []int{100, 100, 500, 500}}, {[]int{7, 3, 7, 9, 7}, 1, 3, []int{7, 7, 7}}, {[]int{7, 3, 7, 9, 7}, 2, 4, []int{7, 7, 9, 7}},
		// Equal depths stay as often as they are.
		{[]int{5, 5, 9, 5}, 0, 3, []int{5, 5, 5}}, {[]int{5}, 0, 1, []int{5}}, {[]int{5}, 0, 2, nil}, {[]int{0, 0}, 0, 2, []int{0, 0}}, {evenTrack(20, 0), 0, 20, evenTrack(20, 0)}, {evenTrack(19, 0), 1000, 20, nil}, {zigzag(20, 0, 1), 0, 10, zigzag(20, 0, 1)}, {zigzag(19, 0, 1), 0, 10, evenTrack(10, 0)}, {zigzag(19, 1, 0), 0, 10, evenTrack(10, 1)}, {zigzag(20, 0, 1), 0, 11, nil}, {zigzag(20, 0, 1), 1, 20, zigzag(20, 0, 1)},
		{[]int{-1000, 20000, -1000}, 1000, 2, []int{-1000, -1000}}, {[]int{20000, -1000, 20000}, 1000, 2, []int{20000, 20000}}, {[]int{-20, -40, -30, 60}, 10, 3, []int{-20, -40, -30}},
	} {
		if kept, ok := impl.WithoutWeak(c.votes, c.width, c.strong); ok != (len(c.want) > 0) || !slices.Equal(kept, c.want) {
			t.Error(c, kept, ok)
		}
	}
}

func TestP13WithoutWeakLeavesTheStrongHypotheses(t *testing.T) {
	for _, votes := range goodVotes() {
		for _, width := range []int{0, 1, 7, 10, 50, 400, 999, 1000} {
			for strong := 1; strong <= impl.MaxVotes; strong++ {
				all, _ := impl.HypothesesOf(votes, width)
				want := slices.DeleteFunc(all, func(h impl.Hypothesis) bool { return h.Votes < strong })
				kept, ok := impl.WithoutWeak(votes, width, strong)
				if ok != (len(want) > 0) {
					t.Error(votes, width, strong, kept, ok)
				}
				if !ok {
					continue
				}
				if got, isValid := impl.HypothesesOf(kept, width); !isValid || !slices.Equal(got, want) {
					t.Error(votes, width, strong, got, want)
				}
				if again, isAgain := impl.WithoutWeak(kept, width, strong); !isAgain || !slices.Equal(again, kept) {
					t.Error("again", votes, width, strong, again, kept)
				}
				if safe, isSafe := impl.SafeDepth(votes, width, strong); !isSafe || safe != slices.Min(kept) {
					t.Error("safe", votes, width, strong, safe, kept)
				}
			}
		}
	}
}

func TestP13NarrowestSingle(t *testing.T) {
	for _, c := range []struct {
		votes []int
		want  int
	}{
		{sampleVotes(), 600}, {[]int{5}, 0}, {[]int{0}, 0}, {[]int{-1000}, 0}, {[]int{5, 5}, 0}, {evenTrack(20, 20000), 0}, {[]int{5, 6}, 1}, {[]int{6, 5}, 1}, {[]int{5, 6, 5}, 1}, {[]int{-5, 5}, 10}, {[]int{-5, -9}, 4},
		// The widest step is the first, the last or a middle one.
		{[]int{0, 50, 60, 65}, 50}, {[]int{0, 5, 55, 65}, 50}, {[]int{0, 5, 15, 65}, 50}, {[]int{65, 0, 15, 5}, 50}, {[]int{0, 10, 20, 30}, 10}, {[]int{30, 0, 20, 10}, 10}, {stairs(20, 7, 50), 50}, {backwards(stairs(20, 7, 50)), 50},
		// Just the greatest width, one less, and more than it.
		{[]int{0, 1000}, 1000}, {[]int{0, 999}, 999}, {[]int{0, 1001}, 1001}, {[]int{0, 1002, 4}, 998}, {[]int{0, 1005, 4}, 1001}, {[]int{0, 5000, 12000, 20000}, 8000}, {[]int{20000, -1000}, 21000}, {[]int{-1000, 20000}, 21000}, {[]int{-999, 20000}, 20999}, {[]int{-1000, 20000, 9500}, 10500}, {zigzag(20, 20000, -1000), 21000}, {stairs(20, -1000, 1000), 1000}, {stairs(20, -1000, 1001), 1001},
	} {
		if width, ok := impl.NarrowestSingle(c.votes); !ok || width != c.want {
			t.Error(c, width, ok)
		}
	}
}

func TestP13WithTheNarrowestWidthThereIsOne(t *testing.T) {
	check := func(votes []int) {
		t.Helper()
		width, ok := impl.NarrowestSingle(votes)
		if !ok || width != plainNarrowest(votes) {
			t.Error(votes, width, ok)
		}
		if list, isValid := impl.HypothesesOf(votes, width); isValid != (width <= 1000) || isValid && len(list) != 1 {
			t.Error(votes, width, list)
		}
		if list, isValid := impl.HypothesesOf(votes, min(1000, width-1)); isValid != (width > 0) || isValid && len(list) < 2 {
			t.Error(votes, width, list)
		}
	}
	for _, votes := range goodVotes() {
		check(votes)
	}
	for size := 1; size <= 5; size++ {
		for _, votes := range tracksWith(size, -2, 0, 1, 5, 11) {
			check(votes)
		}
	}
}

func TestP13MedianVote(t *testing.T) {
	for _, c := range []struct {
		votes []int
		want  int
	}{
		{sampleVotes(), 812}, {[]int{5}, 5}, {[]int{-1000}, -1000}, {[]int{20000}, 20000},
		// An even number of votes has the smaller one of two.
		{[]int{5, 9}, 5}, {[]int{9, 5}, 5}, {[]int{1, 2, 3, 4}, 2}, {[]int{4, 3, 2, 1}, 2}, {[]int{3, 1, 4, 2}, 2}, {[]int{-9, -5}, -9}, {[]int{-1000, 20000}, -1000}, {[]int{5, 5, 5, 9, 9, 9}, 5}, {stairs(20, 0, 1), 9}, {backwards(stairs(20, 0, 1)), 9}, {zigzag(20, 7, 3), 3},
		// An odd one has one in the middle.
		{[]int{1, 2, 3}, 2}, {[]int{3, 1, 2}, 2}, {[]int{2, 3, 1}, 2}, {[]int{9, 9, 5}, 9}, {[]int{9, 5, 5}, 5}, {[]int{9, 5, 9, 5, 9}, 9}, {[]int{20000, -1000, 0}, 0}, {[]int{-3, -1, -2}, -2}, {stairs(19, 0, 1), 9}, {backwards(stairs(19, 0, 1)), 9}, {zigzag(19, 7, 3), 7}, {evenTrack(19, 4), 4}, {evenTrack(20, 4), 4},
	} {
		if median, ok := impl.MedianVote(c.votes); !ok || median != c.want {
			t.Error(c, median, ok)
		}
	}
	for _, votes := range slices.Concat(goodVotes(), tracksWith(4, -1, 0, 3, 8), tracksWith(5, 1, 2, 3, 5)) {
		if median, ok := impl.MedianVote(votes); !ok || median != plainMedian(votes) {
			t.Error(votes, median, ok)
		}
	}
}

func TestP13SplitsAt(t *testing.T) {
	for _, c := range []struct {
		votes []int
		width int
		want  [][2]int
	}{
		{sampleVotes(), 10, [][2]int{{812, 900}, {900, 1500}}}, {sampleVotes(), 88, [][2]int{{900, 1500}}}, {sampleVotes(), 87, [][2]int{{812, 900}, {900, 1500}}}, {sampleVotes(), 6, [][2]int{{805, 812}, {812, 900}, {900, 1500}}}, {sampleVotes(), 0, [][2]int{{800, 805}, {805, 812}, {812, 900}, {900, 1500}}},
		// One Hypothesis is split nowhere.
		{sampleVotes(), 600, nil}, {[]int{5}, 0, nil}, {[]int{5}, 1000, nil}, {[]int{5, 5}, 0, nil}, {evenTrack(20, 20000), 0, nil}, {stairs(20, 0, 1000), 1000, nil}, {[]int{0, 10, 20}, 10, nil},
		{[]int{0, 10, 20}, 9, [][2]int{{0, 10}, {10, 20}}}, {[]int{20, 0, 10}, 9, [][2]int{{0, 10}, {10, 20}}}, {[]int{0, 11}, 10, [][2]int{{0, 11}}}, {[]int{0, 10}, 10, nil}, {[]int{0, 10, 21, 31}, 10, [][2]int{{10, 21}}}, {[]int{-1000, 20000}, 1000, [][2]int{{-1000, 20000}}}, {[]int{5, 9, 5, 9}, 3, [][2]int{{5, 9}}}, {[]int{-5, 0, 5}, 4, [][2]int{{-5, 0}, {0, 5}}}, {zigzag(20, 20000, -1000), 1000, [][2]int{{-1000, 20000}}},
	} {
		if splits, ok := impl.SplitsAt(c.votes, c.width); !ok || !slices.Equal(splits, c.want) {
			t.Error(c, splits, ok)
		}
	}
	if splits, ok := impl.SplitsAt(stairs(20, 0, 1001), 1000); !ok || len(splits) != 19 || splits[0] != [2]int{0, 1001} || splits[18] != [2]int{18018, 19019} {
		t.Error(splits, ok)
	}
}

func TestP29VoteFunctionsLeaveTheirArguments(t *testing.T) {
	// What lies behind the length of the votes is neither read nor written.
	whole := []int{30, 90, 30, 80, 25, 20001, -1001, 40}
	before := slices.Clone(whole)
	for size := range len(whole) + 1 {
		votes, kept := whole[:size], before[:min(size, 5)]
		valid := 1 <= size && size <= 5
		if impl.AreVotes(votes) != valid {
			t.Error("AreVotes", size)
		}
		list, isFound := impl.HypothesesOf(votes, 5)
		strongest, isStrongest := impl.StrongestOf(votes, 5)
		safe, isSafe := impl.SafeDepth(votes, 5, 1)
		num, den, isShare := impl.AmbiguityOf(votes, 5)
		more, isMore := impl.AddVote(votes, 77)
		left, isLeft := impl.WithoutWeak(votes, 5, 1)
		width, isSingle := impl.NarrowestSingle(votes)
		median, isMedian := impl.MedianVote(votes)
		splits, isSplit := impl.SplitsAt(votes, 5)
		for name, isDone := range map[string]bool{"HypothesesOf": isFound, "StrongestOf": isStrongest, "SafeDepth": isSafe, "AmbiguityOf": isShare, "AddVote": isMore, "WithoutWeak": isLeft, "NarrowestSingle": isSingle, "MedianVote": isMedian, "SplitsAt": isSplit} {
			if isDone != valid {
				t.Error(name, size, isDone)
			}
		}
		if !valid {
			if len(list)+safe+num+den+len(more)+len(left)+width+median+len(splits) != 0 || strongest != (impl.Hypothesis{}) {
				t.Error("results of no votes", size)
			}
			continue
		}
		if !slices.Equal(list, plainHypotheses(kept, 5)) || strongest != plainStrongest(kept, 5) || !slices.Equal(splits, plainSplits(kept, 5)) {
			t.Error("hypotheses", size, list, strongest, splits)
		}
		if safe != slices.Min(kept) || width != plainNarrowest(kept) || median != plainMedian(kept) || !isExactly(num, den, big.NewRat(int64(size-strongest.Votes), int64(size))) {
			t.Error("numbers", size, safe, width, median, num, den)
		}
		if !slices.Equal(left, kept) || !slices.Equal(more, slices.Concat(kept, []int{77})) {
			t.Error("votes", size, left, more)
		}
	}
	if !slices.Equal(whole, before) {
		t.Error("the votes are now", whole)
	}
}

// voteResults are all slices that the functions return for votes.
type voteResults struct {
	hypotheses   []impl.Hypothesis
	splits       [][2]int
	more, strong []int
}

// resultsOfVotes returns what the functions return for votes.
func resultsOfVotes(votes []int, width int) voteResults {
	r := voteResults{}
	r.hypotheses, _ = impl.HypothesesOf(votes, width)
	r.splits, _ = impl.SplitsAt(votes, width)
	r.more, _ = impl.AddVote(votes, 5)
	r.strong, _ = impl.WithoutWeak(votes, width, 1)
	return r
}

// isLike tells whether two results are equal.
func (r voteResults) isLike(other voteResults) bool {
	return slices.Equal(r.hypotheses, other.hypotheses) && slices.Equal(r.splits, other.splits) && slices.Equal(r.more, other.more) && slices.Equal(r.strong, other.strong)
}

// fill writes over all that lies in a list, and behind it.
func fill[T any](list []T, with T) {
	room := list[:cap(list)]
	for i := range room {
		room[i] = with
	}
}

func TestP29VoteResultsShareNothing(t *testing.T) {
	for _, original := range goodVotes() {
		size := len(original)
		// The votes have room behind their length, in which no result may lie.
		votes := make([]int, size, 64)
		copy(votes, original)
		for _, width := range []int{0, 10, 1000} {
			first, second := resultsOfVotes(votes, width), resultsOfVotes(votes, width)
			if !first.isLike(second) {
				t.Error("other results", original, width)
			}
			fill(first.hypotheses, impl.Hypothesis{Low: -7, High: -7, Votes: -7})
			fill(first.splits, [2]int{-7, -7})
			fill(first.more, -7)
			if !slices.Equal(first.strong, second.strong) {
				t.Error("shared with another result", original, width)
			}
			fill(first.strong, -7)
			if !second.isLike(resultsOfVotes(original, width)) {
				t.Error("shared with the results of another call", original, width)
			}
		}
		if !slices.Equal(votes[:64], slices.Concat(original, make([]int, 64-size))) {
			t.Error("the votes are now", votes[:64])
		}
	}
}

func TestP29TheSameVotesHaveTheSameResults(t *testing.T) {
	for _, votes := range goodVotes() {
		for _, width := range []int{0, 10, 1000} {
			first := resultsOfVotes(votes, width)
			for range 20 {
				if !resultsOfVotes(votes, width).isLike(first) {
					t.Error(votes, width)
				}
			}
		}
	}
}

func TestP29VoteFunctionsReturnForAllArguments(t *testing.T) {
	numbers := []int{math.MinInt, math.MinInt + 1, -5000, -1001, -1000, -1, 0, 1, 2, 10, 20, 21, 1000, 1001, 20000, 20001, 1 << 62, -1 << 62, math.MaxInt - 1, math.MaxInt}
	for _, a := range numbers {
		for _, b := range numbers {
			checkVoteFunctions(t, nil, a, b)
			checkVoteFunctions(t, []int{a}, a, b)
			checkVoteFunctions(t, []int{a, b}, b, a)
			checkVoteFunctions(t, []int{a, b, a}, 10, b)
			checkVoteFunctions(t, []int{b, 5, a, 7}, a, 1)
			checkVoteFunctions(t, zigzag(20, a, b), 1000, 10)
			checkVoteFunctions(t, zigzag(21, a, b), 0, 1)
			checkVoteFunctions(t, sampleVotes(), a, b)
			checkVoteFunctions(t, manyDepths(20), a, b)
			checkVoteFunctions(t, manyDepths(19), a, b)
		}
	}
	long := evenTrack(1000000, 1)
	checkVoteFunctions(t, long, 10, 1)
	checkVoteFunctions(t, long, math.MinInt, math.MaxInt)
}

// checkVoteFunctions tells whether the functions of votes return something only if they succeed.
func checkVoteFunctions(t *testing.T, votes []int, width, strong int) {
	t.Helper()
	valid := impl.AreVotes(votes)
	isWidth := valid && 0 <= width && width <= 1000
	isStrong := isWidth && 1 <= strong && strong <= 20
	list, ok := impl.HypothesesOf(votes, width)
	if ok != isWidth || ok && len(list) < 1 || len(list) > 20 || !ok && len(list) != 0 {
		t.Error("hypotheses", width, list, ok)
	}
	isStrong = isStrong && slices.ContainsFunc(list, func(h impl.Hypothesis) bool { return h.Votes >= strong })
	if h, ok := impl.StrongestOf(votes, width); ok != isWidth || ok && !slices.Contains(list, h) || !ok && h != (impl.Hypothesis{}) {
		t.Error("strongest", width, h, ok)
	}
	if safe, ok := impl.SafeDepth(votes, width, strong); ok != isStrong || ok && !slices.Contains(votes, safe) || !ok && safe != 0 {
		t.Error("safe", width, strong, safe, ok)
	}
	if num, den, ok := impl.AmbiguityOf(votes, width); ok != isWidth || ok && (num < 0 || num >= den || den > 20) || !ok && (num != 0 || den != 0) {
		t.Error("ambiguity", width, num, den, ok)
	}
	if more, ok := impl.AddVote(votes, width); ok != (valid && len(votes) < 20 && -1000 <= width && width <= 20000) || ok && !impl.AreVotes(more) || !ok && len(more) != 0 {
		t.Error("added", width, more, ok)
	}
	if kept, ok := impl.WithoutWeak(votes, width, strong); ok != isStrong || ok && !impl.AreVotes(kept) || !ok && len(kept) != 0 {
		t.Error("without weak", width, strong, kept, ok)
	}
	if n, ok := impl.NarrowestSingle(votes); ok != valid || n < 0 || n > 21000 || !ok && n != 0 {
		t.Error("narrowest", n, ok)
	}
	if n, ok := impl.MedianVote(votes); ok != valid || ok && !slices.Contains(votes, n) || !ok && n != 0 {
		t.Error("median", n, ok)
	}
	if splits, ok := impl.SplitsAt(votes, width); ok != isWidth || ok && len(splits) != len(list)-1 || !ok && len(splits) != 0 {
		t.Error("splits", width, splits, ok)
	}
}
