package tests

import (
	"math"
	"slices"
	"testing"

	"loop.example/g01031/impl"
)

// sampleTrack has a spike up at 2, one down at 5, and neither elsewhere, for a limit of 50.
func sampleTrack() []int { return []int{500, 505, 400, 503, 500, 620, 498} }

// manyDepths returns so many depths which rise and fall by very different numbers.
func manyDepths(count int) []int {
	track, n := []int{}, 11
	for i := range count {
		n = (n*7919 + 104729) % 1000003
		track = append(track, n%[]int{40, 300, 21000, 3, 6000}[i%5]-1000*(i%2))
	}
	return track
}

// zigzag returns so many depths that go to and fro between two.
func zigzag(count, first, second int) []int {
	track := []int{}
	for i := range count {
		track = append(track, []int{first, second}[i%2])
	}
	return track
}

// evenTrack returns a track of one depth alone.
func evenTrack(count, depth int) []int { return zigzag(count, depth, depth) }

// tracksWith returns all tracks of some size with some depths.
func tracksWith(size int, depths ...int) [][]int {
	tracks := [][]int{{}}
	for range size {
		longer := [][]int{}
		for _, track := range tracks {
			for _, depth := range depths {
				longer = append(longer, append(slices.Clone(track), depth))
			}
		}
		tracks = longer
	}
	return tracks
}

// goodTracks are valid, from the fewest to the most depths.
func goodTracks() [][]int {
	tracks := [][]int{
		sampleTrack(), {0, 5, 3}, {1, 2, 3}, {3, 2, 1}, {7, 7, 7}, {5, 0, 5}, {0, 5, 0},
		// The least and the greatest depths and those beside them, at each place.
		{-1000, -1000, -1000}, {20000, 20000, 20000}, {-1000, 20000, -1000}, {20000, -1000, 20000}, {-999, 19999, -999}, {-1000, -999, -1000}, {20000, 19999, 20000}, {0, 20000, -1000}, {-1000, 20000, 0},
		// A spike that is as great as the greatest limit, or by a centimeter greater or smaller.
		{0, 5000, 0}, {0, 5001, 0}, {0, 4999, 0}, {5000, 0, 5000}, {5001, 0, 5001}, {4999, 0, 4999}, {0, 5001, 1}, {1, 5001, 0}, {5001, 0, 5000}, {5000, 0, 5001},
		// Spikes beside each other, on one side only, and at the ends.
		{0, 60, 0, 60, 0}, {0, 60, 0, 60}, {60, 0, 60, 0}, {0, 60, 60, 0}, {60, 0, 0, 60}, {100, 0, 0}, {0, 0, 100}, {0, 100, 100}, {100, 100, 0}, {100, 50, 0}, {0, 50, 100}, {0, 60, 0, 0, 0, 60, 0}, {9, 4, 8, 3, 7, 2, 6, 1, 5, 0},
		// Smooth parts of the same length, and ones that grow or shrink.
		{0, 1, 100, 101, 200, 201}, {0, 100, 101, 200, 201, 202}, {0, 1, 2, 100, 101, 200}, {0, 100, 200, 201, 202, 300, 400, 401, 402}, {1, 0, 2, 1, 3, 2, 4, 3}, {0, 5, 10, 15, 21, 26, 31, 36},
		zigzag(30, 0, 100), zigzag(30, -1000, 20000), zigzag(30, 20000, -1000), zigzag(29, 300, 200), zigzag(4, 5000, -1), zigzag(5, 0, 1), evenTrack(30, 20000), evenTrack(30, -1000), evenTrack(4, 0),
	}
	for count := 3; count <= impl.MaxTrack; count++ {
		tracks = append(tracks, manyDepths(count), manyDepths(count + 7)[7:])
	}
	return tracks
}

// wrongTracks have too few or too many depths, or one that is none.
func wrongTracks() [][]int {
	tracks := [][]int{nil, {}, {5}, {5, 6}, {-1000}, {20000, 20000}, evenTrack(31, 5), manyDepths(31), manyDepths(32), evenTrack(60, 0), evenTrack(1000, 7)}
	for _, n := range append([]int{-1002, -5000, 20002, 30000, 1 << 62, -1 << 62, 1<<32 + 5}, wrongDepths...) {
		tracks = append(tracks, evenTrack(3, n), evenTrack(30, n), []int{n}, []int{n, n})
		for _, count := range []int{3, 4, 30} {
			for i := range count {
				track := manyDepths(count)
				track[i] = n
				tracks = append(tracks, track)
			}
		}
	}
	return tracks
}

// wrongLimits are beyond a limit, by one or by far.
var wrongLimits = []int{math.MinInt, math.MinInt + 1, -5000, -50, -1, 0, 5001, 5002, 10000, 21000, math.MaxInt - 1, math.MaxInt, 1 << 62, -1 << 62, 1<<32 + 50}

// wrongFilterReaches are beyond a limit, by one or by far.
var wrongFilterReaches = []int{math.MinInt, math.MinInt + 1, -10, -2, -1, 11, 12, 30, math.MaxInt - 1, math.MaxInt, 1 << 62, -1 << 62, 1<<32 + 1}

// limitsAround returns the limits at the ends and around those at which two successive depths just differ by more.
func limitsAround(track []int) []int {
	limits := []int{1, 2, 50, 4999, 5000}
	for i := range len(track) - 1 {
		step := max(track[i]-track[i+1], track[i+1]-track[i])
		for n := step - 1; n <= step+1; n++ {
			if 1 <= n && n <= 5000 {
				limits = append(limits, n)
			}
		}
	}
	slices.Sort(limits)
	return slices.Compact(limits)
}

// plainSpikes returns the places of the spikes up and of those down.
func plainSpikes(track []int, limit int) ([]int, []int) {
	up, down := []int{}, []int{}
	for i := range track {
		if i == 0 || i == len(track)-1 {
			continue
		}
		if track[i]+limit < track[i-1] && track[i]+limit < track[i+1] {
			up = append(up, i)
		} else if track[i] > track[i-1]+limit && track[i] > track[i+1]+limit {
			down = append(down, i)
		}
	}
	return up, down
}

// plainKeep returns the keep list without the spikes down.
func plainKeep(track []int, limit int) []int {
	_, down := plainSpikes(track, limit)
	keep := []int{}
	for i := range track {
		if slices.Contains(down, i) {
			keep = append(keep, 0)
		} else {
			keep = append(keep, 1)
		}
	}
	return keep
}

// plainMedians returns the middle ones of three sorted depths each, between both ends.
func plainMedians(track []int) []int {
	medians := []int{track[0]}
	for i := range len(track) - 2 {
		three := slices.Sorted(slices.Values(track[i : i+3]))
		medians = append(medians, three[1])
	}
	return append(medians, track[len(track)-1])
}

// plainShoals compares each depth with each other one that is near enough.
func plainShoals(track []int, reach int) []int {
	shoals := slices.Clone(track)
	for i := range track {
		for k := range track {
			if max(i-k, k-i) <= reach && track[k] < shoals[i] {
				shoals[i] = track[k]
			}
		}
	}
	return shoals
}

// plainRoughness tells how far the track goes down and up, centimeter by centimeter.
func plainRoughness(track []int) int {
	sum := 0
	for i := range len(track) - 1 {
		for depth := min(track[i], track[i+1]); depth < max(track[i], track[i+1]); depth++ {
			sum++
		}
	}
	return sum
}

// isSmooth tells whether no two successive depths of a part differ by more than a limit.
func isSmooth(part []int, limit int) bool {
	for i := range len(part) - 1 {
		if part[i+1] > part[i]+limit || part[i+1] < part[i]-limit {
			return false
		}
	}
	return true
}

// plainSmooth tries all parts, the longest ones first, each from the front on.
func plainSmooth(track []int, limit int) (int, int) {
	for count := len(track); count > 1; count-- {
		for begin := 0; begin+count <= len(track); begin++ {
			if isSmooth(track[begin:begin+count], limit) {
				return begin, count
			}
		}
	}
	return 0, 1
}

// plainShoaler returns the places at which a track is less than another one.
func plainShoaler(track, other []int) []int {
	places := []int{}
	for i := range track {
		if track[i]-other[i] < 0 {
			places = append(places, i)
		}
	}
	return places
}

// plainFlat filters a track while it has spikes.
func plainFlat(track []int, limit int) ([]int, int) {
	up, down := plainSpikes(track, limit)
	if len(up)+len(down) == 0 {
		return track, 0
	}
	flat, times := plainFlat(plainMedians(track), limit)
	return flat, times + 1
}

func TestP12IsTrack(t *testing.T) {
	for _, track := range goodTracks() {
		if !impl.IsTrack(track) {
			t.Error(track)
		}
	}
	for _, track := range wrongTracks() {
		if impl.IsTrack(track) {
			t.Error(track)
		}
	}
	for count := range 100 {
		if impl.IsTrack(evenTrack(count, 5)) != (3 <= count && count <= 30) {
			t.Error(count)
		}
	}
	if impl.MaxTrack != 30 {
		t.Error(impl.MaxTrack)
	}
}

func TestP12TheWrongDepthOfAFullTrackIsFound(t *testing.T) {
	for i := range impl.MaxTrack {
		for depth, want := range map[int]bool{-1001: false, -1000: true, -999: true, 0: true, 19999: true, 20000: true, 20001: false, math.MinInt: false, math.MaxInt: false} {
			track := manyDepths(impl.MaxTrack)
			track[i] = depth
			if impl.IsTrack(track) != want {
				t.Error(i, depth)
			}
		}
	}
}

func TestP12SpikesIn(t *testing.T) {
	x := sampleTrack()
	for _, c := range []struct {
		track    []int
		limit    int
		up, down []int
	}{
		{x, 50, []int{2}, []int{5}}, {x, 1, []int{2, 4}, []int{1, 3, 5}}, {x, 2, []int{2, 4}, []int{1, 3, 5}}, {x, 3, []int{2}, []int{1, 5}}, {x, 4, []int{2}, []int{1, 5}}, {x, 5, []int{2}, []int{5}}, {x, 102, []int{2}, []int{5}}, {x, 103, nil, []int{5}}, {x, 104, nil, []int{5}}, {x, 119, nil, []int{5}}, {x, 120, nil, nil}, {x, 5000, nil, nil},
		// At the limit and by a centimeter more or less than it, down and up.
		{[]int{0, 50, 0}, 50, nil, nil}, {[]int{0, 51, 0}, 50, nil, []int{1}}, {[]int{0, 49, 0}, 50, nil, nil}, {[]int{50, 0, 50}, 50, nil, nil}, {[]int{51, 0, 51}, 50, []int{1}, nil}, {[]int{49, 0, 49}, 50, nil, nil},
		// At the limit on one side and more on the other one.
		{[]int{0, 51, 1}, 50, nil, nil}, {[]int{1, 51, 0}, 50, nil, nil}, {[]int{51, 0, 50}, 50, nil, nil}, {[]int{50, 0, 51}, 50, nil, nil}, {[]int{0, 52, 1}, 50, nil, []int{1}}, {[]int{1, 52, 0}, 50, nil, []int{1}}, {[]int{52, 0, 51}, 50, []int{1}, nil}, {[]int{51, 0, 52}, 50, []int{1}, nil},
		// On one side only: a step, a slope, and a neighbor that is as deep.
		{[]int{0, 0, 100}, 50, nil, nil}, {[]int{0, 100, 100}, 50, nil, nil}, {[]int{100, 100, 0}, 50, nil, nil}, {[]int{100, 0, 0}, 50, nil, nil}, {[]int{0, 100, 200}, 50, nil, nil}, {[]int{200, 100, 0}, 50, nil, nil}, {[]int{0, 100, 60}, 50, nil, nil}, {[]int{100, 0, 40}, 50, nil, nil}, {[]int{0, 60, 60, 0}, 50, nil, nil}, {[]int{60, 0, 0, 60}, 50, nil, nil},
		// Beside each other, up and down in turn.
		{[]int{0, 60, 0, 60}, 50, []int{2}, []int{1}}, {[]int{60, 0, 60, 0}, 50, []int{1}, []int{2}}, {[]int{0, 60, 0, 60, 0}, 50, []int{2}, []int{1, 3}}, {[]int{0, 60, 0, 60, 0}, 59, []int{2}, []int{1, 3}}, {[]int{0, 60, 0, 60, 0}, 60, nil, nil}, {[]int{0, 60, 0, 50, 0}, 50, nil, []int{1}}, {[]int{0, 60, 9, 60, 0}, 50, []int{2}, []int{1, 3}}, {[]int{0, 60, 10, 60, 0}, 50, nil, nil}, {[]int{0, 60, 10, 61, 0}, 50, nil, []int{3}},
		// Neither the first nor the last depth, however far it is from the next one.
		{[]int{100, 0, 0}, 1, nil, nil}, {[]int{0, 0, 100}, 1, nil, nil}, {[]int{0, 100, 100}, 1, nil, nil}, {[]int{100, 100, 0}, 1, nil, nil}, {[]int{20000, -1000, -1000, 20000}, 1, nil, nil}, {[]int{-1000, 20000, 20000, -1000}, 1, nil, nil}, {[]int{0, 50, 0, 0}, 1, nil, []int{1}}, {[]int{0, 0, 50, 0}, 1, nil, []int{2}},
		// The least and the greatest limit.
		{[]int{0, 1, 0}, 1, nil, nil}, {[]int{0, 2, 0}, 1, nil, []int{1}}, {[]int{1, 0, 1}, 1, nil, nil}, {[]int{2, 0, 2}, 1, []int{1}, nil}, {[]int{0, 2, 0}, 2, nil, nil}, {[]int{0, 3, 0}, 2, nil, []int{1}}, {[]int{7, 7, 7}, 1, nil, nil},
		{[]int{0, 5000, 0}, 5000, nil, nil}, {[]int{0, 5001, 0}, 5000, nil, []int{1}}, {[]int{5000, 0, 5000}, 5000, nil, nil}, {[]int{5001, 0, 5001}, 5000, []int{1}, nil}, {[]int{0, 5000, 0}, 4999, nil, []int{1}}, {[]int{5000, 0, 5000}, 4999, []int{1}, nil},
		// The least and the greatest depths, and those that dry.
		{[]int{-1000, 20000, -1000}, 5000, nil, []int{1}}, {[]int{20000, -1000, 20000}, 5000, []int{1}, nil}, {[]int{-100, -151, -100}, 50, []int{1}, nil}, {[]int{-100, -150, -100}, 50, nil, nil}, {[]int{-100, -49, -100}, 50, nil, []int{1}}, {[]int{-100, -50, -100}, 50, nil, nil}, {[]int{-30, 21, -30}, 50, nil, []int{1}}, {[]int{21, -30, 21}, 50, []int{1}, nil}, {[]int{20, -30, 20}, 50, nil, nil}, {[]int{20000, 19998, 20000}, 1, []int{1}, nil}, {[]int{-1000, -998, -1000}, 1, nil, []int{1}},
		{zigzag(30, 0, 100), 99, []int{2, 4, 6, 8, 10, 12, 14, 16, 18, 20, 22, 24, 26, 28}, []int{1, 3, 5, 7, 9, 11, 13, 15, 17, 19, 21, 23, 25, 27}}, {zigzag(30, 100, 0), 99, []int{1, 3, 5, 7, 9, 11, 13, 15, 17, 19, 21, 23, 25, 27}, []int{2, 4, 6, 8, 10, 12, 14, 16, 18, 20, 22, 24, 26, 28}}, {zigzag(30, 100, 0), 100, nil, nil}, {evenTrack(30, 20000), 1, nil, nil},
	} {
		if up, down, ok := impl.SpikesIn(c.track, c.limit); !ok || !slices.Equal(up, c.up) || !slices.Equal(down, c.down) {
			t.Error(c, up, down, ok)
		}
	}
}

func TestP12EverySpikeOfEveryTrack(t *testing.T) {
	ups, downs := 0, 0
	check := func(track []int, limit int) {
		t.Helper()
		wantUp, wantDown := plainSpikes(track, limit)
		up, down, ok := impl.SpikesIn(track, limit)
		if !ok || !slices.Equal(up, wantUp) || !slices.Equal(down, wantDown) {
			t.Error(track, limit, up, down, ok)
		}
		if keep, ok := impl.RejectDown(track, limit); !ok || !slices.Equal(keep, plainKeep(track, limit)) {
			t.Error(track, limit, keep, ok)
		}
		ups, downs = ups+len(up), downs+len(down)
	}
	for _, track := range goodTracks() {
		for _, limit := range limitsAround(track) {
			check(track, limit)
		}
	}
	for _, depths := range [][]int{{0, 1, 2, 3, 4, 5}, {-3, -2, 0, 3}} {
		for size := 3; size <= 5; size++ {
			for _, track := range tracksWith(size, depths...) {
				for limit := 1; limit <= 4; limit++ {
					check(track, limit)
				}
			}
		}
	}
	if ups < 1000 || downs < 1000 {
		t.Error("few spikes", ups, downs)
	}
}

func TestP12EveryLimit(t *testing.T) {
	// A spike of each height, which is met by one limit exactly.
	for height := 1; height <= 5002; height++ {
		down, up := []int{7, 7 + height, 7}, []int{7 + height, 7, 7 + height}
		for limit := max(1, height-2); limit <= min(5000, height+2); limit++ {
			ups, downs, ok := impl.SpikesIn(down, limit)
			if !ok || len(ups) != 0 || (len(downs) == 1) != (height > limit) {
				t.Fatal(height, limit, ups, downs, ok)
			}
			ups, downs, ok = impl.SpikesIn(up, limit)
			if !ok || len(downs) != 0 || (len(ups) == 1) != (height > limit) {
				t.Fatal(height, limit, ups, downs, ok)
			}
		}
	}
}

func TestP12WrongTracksAndLimitsAreRefused(t *testing.T) {
	check := func(track []int, limit int) {
		t.Helper()
		if up, down, ok := impl.SpikesIn(track, limit); ok || len(up) != 0 || len(down) != 0 {
			t.Error(track, limit, up, down, ok)
		}
		if keep, ok := impl.RejectDown(track, limit); ok || len(keep) != 0 {
			t.Error(track, limit, keep, ok)
		}
		if first, count, ok := impl.LongestSmooth(track, limit); ok || first != 0 || count != 0 {
			t.Error(track, limit, first, count, ok)
		}
		if flat, times, ok := impl.Flattened(track, limit); ok || len(flat) != 0 || times != 0 {
			t.Error(track, limit, flat, times, ok)
		}
	}
	for _, track := range wrongTracks() {
		for _, limit := range []int{1, 50, 5000, 0, 5001} {
			check(track, limit)
		}
	}
	for _, track := range goodTracks() {
		for _, limit := range wrongLimits {
			check(track, limit)
		}
	}
}

func TestP12RejectDown(t *testing.T) {
	for _, c := range []struct {
		track []int
		limit int
		want  []int
	}{
		{sampleTrack(), 50, []int{1, 1, 1, 1, 1, 0, 1}}, {sampleTrack(), 1, []int{1, 0, 1, 0, 1, 0, 1}}, {sampleTrack(), 120, []int{1, 1, 1, 1, 1, 1, 1}}, {sampleTrack(), 5000, []int{1, 1, 1, 1, 1, 1, 1}},
		{[]int{0, 51, 0}, 50, []int{1, 0, 1}}, {[]int{0, 50, 0}, 50, []int{1, 1, 1}}, {[]int{0, 51, 1}, 50, []int{1, 1, 1}}, {[]int{1, 51, 0}, 50, []int{1, 1, 1}},
		// Spikes up are kept, also beside ones down.
		{[]int{51, 0, 51}, 50, []int{1, 1, 1}}, {[]int{0, 60, 0, 60, 0}, 50, []int{1, 0, 1, 0, 1}}, {[]int{60, 0, 60, 0, 60}, 50, []int{1, 1, 0, 1, 1}}, {[]int{20000, -1000, 20000}, 5000, []int{1, 1, 1}}, {[]int{-1000, 20000, -1000}, 5000, []int{1, 0, 1}},
		// The ends are no spikes.
		{[]int{100, 0, 0, 100}, 1, []int{1, 1, 1, 1}}, {[]int{100, 0, 100}, 1, []int{1, 1, 1}}, {evenTrack(30, 9), 1, evenTrack(30, 1)}, {zigzag(29, 0, 100), 99, append(zigzag(28, 1, 0), 1)}, {zigzag(30, 0, 100), 99, append(zigzag(28, 1, 0), 1, 1)}, {zigzag(30, 0, 100), 100, evenTrack(30, 1)},
	} {
		if keep, ok := impl.RejectDown(c.track, c.limit); !ok || !slices.Equal(keep, c.want) {
			t.Error(c, keep, ok)
		}
	}
}

func TestP12KeptDepths(t *testing.T) {
	for _, c := range []struct{ track, keep, want []int }{
		{sampleTrack(), []int{1, 1, 1, 1, 1, 0, 1}, []int{500, 505, 400, 503, 500, 498}}, {sampleTrack(), evenTrack(7, 1), sampleTrack()}, {sampleTrack(), evenTrack(7, 0), nil}, {sampleTrack(), []int{1, 0, 0, 0, 0, 0, 0}, []int{500}}, {sampleTrack(), []int{0, 0, 0, 0, 0, 0, 1}, []int{498}}, {sampleTrack(), []int{0, 1, 0, 1, 0, 1, 0}, []int{505, 503, 620}},
		// Equal depths stay as many as are kept, and a depth of 0 or 1 is like any other one.
		{[]int{7, 7, 7}, []int{1, 0, 1}, []int{7, 7}}, {[]int{0, 1, 0}, []int{1, 1, 0}, []int{0, 1}}, {[]int{1, 0, 1}, []int{0, 1, 0}, []int{0}}, {[]int{-1000, 20000, -1000}, []int{0, 1, 1}, []int{20000, -1000}}, {[]int{3, 2, 1}, []int{1, 1, 1}, []int{3, 2, 1}},
		{evenTrack(30, 5), evenTrack(30, 1), evenTrack(30, 5)}, {evenTrack(30, 5), evenTrack(30, 0), nil}, {zigzag(30, 4, 5), zigzag(30, 0, 1), evenTrack(15, 5)}, {zigzag(30, 4, 5), zigzag(30, 1, 0), evenTrack(15, 4)},
	} {
		if kept, ok := impl.KeptDepths(c.track, c.keep); !ok || !slices.Equal(kept, c.want) {
			t.Error(c, kept, ok)
		}
	}
}

func TestP12EveryKeepList(t *testing.T) {
	for count := 3; count <= 8; count++ {
		track := manyDepths(count)
		// Also numbers other than 0 and 1, at each place.
		for _, keep := range append(tracksWith(count, 0, 1), tracksWith(min(count, 5), -1, 0, 1, 2)...) {
			want, valid := []int{}, len(keep) == count
			for i, n := range keep {
				valid = valid && (n == 0 || n == 1)
				if n == 1 {
					want = append(want, track[i])
				}
			}
			kept, ok := impl.KeptDepths(track, keep)
			if ok != valid || ok && !slices.Equal(kept, want) || !ok && len(kept) != 0 {
				t.Error(track, keep, kept, ok)
			}
		}
	}
}

func TestP12KeptDepthsRefuses(t *testing.T) {
	check := func(track, keep []int) {
		t.Helper()
		if kept, ok := impl.KeptDepths(track, keep); ok || len(kept) != 0 {
			t.Error(track, keep, kept, ok)
		}
	}
	for _, track := range goodTracks() {
		// Shorter and longer than the track, by one and by more.
		for _, count := range []int{0, 1, 2, len(track) - 1, len(track) + 1, len(track) + 2, 2 * len(track), 31, 1000} {
			if count != len(track) {
				check(track, evenTrack(count, 1))
				check(track, evenTrack(count, 0))
			}
		}
		check(track, nil)
		for _, n := range []int{-1, 2, 3, -2, 500, math.MinInt, math.MaxInt, 1 << 32, 1<<32 + 1, 1 << 62} {
			for i := range track {
				for _, rest := range []int{0, 1} {
					keep := evenTrack(len(track), rest)
					keep[i] = n
					check(track, keep)
				}
			}
		}
	}
	for _, track := range wrongTracks() {
		check(track, evenTrack(len(track), 1))
		check(track, evenTrack(len(track), 0))
		check(track, evenTrack(3, 1))
	}
}

func TestP12WhatIsRejectedIsNotKept(t *testing.T) {
	for _, track := range goodTracks() {
		for _, limit := range limitsAround(track) {
			_, down := plainSpikes(track, limit)
			want := slices.Clone(track)
			for _, i := range slices.Backward(down) {
				want = slices.Delete(want, i, i+1)
			}
			keep, _ := impl.RejectDown(track, limit)
			if kept, ok := impl.KeptDepths(track, keep); !ok || !slices.Equal(kept, want) {
				t.Error(track, limit, keep, kept, ok)
			}
		}
	}
}

func TestP12MedianFilter(t *testing.T) {
	for _, c := range []struct{ track, want []int }{
		{sampleTrack(), []int{500, 500, 503, 500, 503, 500, 498}},
		// The three depths in every order.
		{[]int{1, 2, 3}, []int{1, 2, 3}}, {[]int{1, 3, 2}, []int{1, 2, 2}}, {[]int{2, 1, 3}, []int{2, 2, 3}}, {[]int{2, 3, 1}, []int{2, 2, 1}}, {[]int{3, 1, 2}, []int{3, 2, 2}}, {[]int{3, 2, 1}, []int{3, 2, 1}},
		// Equal depths: all, and two at each place.
		{[]int{7, 7, 7}, []int{7, 7, 7}}, {[]int{7, 7, 9}, []int{7, 7, 9}}, {[]int{7, 9, 7}, []int{7, 7, 7}}, {[]int{9, 7, 7}, []int{9, 7, 7}}, {[]int{9, 9, 7}, []int{9, 9, 7}}, {[]int{9, 7, 9}, []int{9, 9, 9}}, {[]int{7, 9, 9}, []int{7, 9, 9}},
		// Of the old track alone, and not of what is replaced already.
		{[]int{0, 5, 3, 9, 1}, []int{0, 3, 5, 3, 1}}, {[]int{0, 60, 0, 60, 0}, []int{0, 0, 60, 0, 0}}, {[]int{0, 60, 0, 60}, []int{0, 0, 60, 60}}, {[]int{60, 0, 60, 0}, []int{60, 60, 0, 0}}, {[]int{9, 4, 8, 3, 7, 2, 6}, []int{9, 8, 4, 7, 3, 6, 6}},
		// The ends stay, and so does what is two depths wide.
		{[]int{100, 0, 0, 0, 100}, []int{100, 0, 0, 0, 100}}, {[]int{0, 60, 60, 0}, []int{0, 60, 60, 0}}, {[]int{-5, 9, 9, -5, -5, 9}, []int{-5, 9, 9, -5, -5, 9}},
		{[]int{-1000, 20000, -1000}, []int{-1000, -1000, -1000}}, {[]int{20000, -1000, 20000}, []int{20000, 20000, 20000}}, {[]int{0, 20000, -1000}, []int{0, 0, -1000}}, {[]int{-1000, 20000, 0}, []int{-1000, 0, 0}}, {[]int{20000, -1000, 0}, []int{20000, 0, 0}},
		{evenTrack(30, 20000), evenTrack(30, 20000)}, {zigzag(30, 1, 2), slices.Concat([]int{1}, zigzag(28, 1, 2), []int{2})},
	} {
		if medians, ok := impl.MedianFilter(c.track); !ok || !slices.Equal(medians, c.want) {
			t.Error(c, medians, ok)
		}
	}
}

func TestP12EveryMedian(t *testing.T) {
	tracks := slices.Concat(goodTracks(), tracksWith(3, 0, 1, 2, 3, 4), tracksWith(4, -1, 0, 1, 2), tracksWith(6, 0, 1, 2))
	for _, track := range tracks {
		if medians, ok := impl.MedianFilter(track); !ok || !slices.Equal(medians, plainMedians(track)) {
			t.Error(track, medians, ok)
		}
	}
	for _, track := range wrongTracks() {
		if medians, ok := impl.MedianFilter(track); ok || len(medians) != 0 {
			t.Error(track, medians, ok)
		}
	}
}

func TestP12ShoalFilter(t *testing.T) {
	x, slope := sampleTrack(), []int{9, 8, 7, 6, 5, 4, 3, 2, 1, 0, -1, -2, -3, -4}
	for _, c := range []struct {
		track []int
		reach int
		want  []int
	}{
		{x, 0, x}, {x, 1, []int{500, 400, 400, 400, 500, 498, 498}}, {x, 2, []int{400, 400, 400, 400, 400, 498, 498}}, {x, 3, []int{400, 400, 400, 400, 400, 400, 498}}, {x, 4, evenTrack(7, 400)}, {x, 10, evenTrack(7, 400)},
		// Up to both ends, just to them, and beyond both.
		{[]int{3, 2, 1}, 0, []int{3, 2, 1}}, {[]int{3, 2, 1}, 1, []int{2, 1, 1}}, {[]int{3, 2, 1}, 2, []int{1, 1, 1}}, {[]int{3, 2, 1}, 3, []int{1, 1, 1}}, {[]int{3, 2, 1}, 10, []int{1, 1, 1}}, {[]int{1, 2, 3}, 1, []int{1, 1, 2}}, {[]int{1, 2, 3}, 2, []int{1, 1, 1}}, {[]int{1, 2, 3}, 9, []int{1, 1, 1}}, {[]int{3, 1, 2}, 10, []int{1, 1, 1}}, {[]int{1, 3, 3}, 1, []int{1, 1, 3}}, {[]int{3, 3, 1}, 1, []int{3, 1, 1}}, {[]int{3, 1, 3}, 1, []int{1, 1, 1}},
		// Neither nearer nor farther than the reach, on either side.
		{[]int{0, 5, 5, 5, 5, 5}, 2, []int{0, 0, 0, 5, 5, 5}}, {[]int{5, 5, 5, 5, 5, 0}, 2, []int{5, 5, 5, 0, 0, 0}}, {[]int{5, 5, 5, 0, 5, 5, 5}, 1, []int{5, 5, 0, 0, 0, 5, 5}}, {[]int{5, 5, 5, 0, 5, 5, 5}, 2, []int{5, 0, 0, 0, 0, 0, 5}}, {[]int{5, 5, 5, 0, 5, 5, 5}, 3, evenTrack(7, 0)}, {slope, 10, []int{-1, -2, -3, -4, -4, -4, -4, -4, -4, -4, -4, -4, -4, -4}}, {slope, 9, []int{0, -1, -2, -3, -4, -4, -4, -4, -4, -4, -4, -4, -4, -4}},
		// The least depth is below 0, and the greatest ones stay where no other one is.
		{[]int{-1000, 20000, 20000}, 1, []int{-1000, -1000, 20000}}, {[]int{20000, 20000, -1000}, 1, []int{20000, -1000, -1000}}, {[]int{20000, -1000, 20000}, 0, []int{20000, -1000, 20000}}, {evenTrack(3, 20000), 10, evenTrack(3, 20000)}, {evenTrack(30, -1000), 10, evenTrack(30, -1000)}, {[]int{-1, 0, -2}, 1, []int{-1, -2, -2}},
		{append(evenTrack(29, 8), 3), 10, append(evenTrack(19, 8), evenTrack(11, 3)...)}, {append([]int{3}, evenTrack(29, 8)...), 10, append(evenTrack(11, 3), evenTrack(19, 8)...)}, {append(evenTrack(29, 8), 3), 9, append(evenTrack(20, 8), evenTrack(10, 3)...)}, {zigzag(30, 4, 6), 1, evenTrack(30, 4)}, {slices.Concat(evenTrack(15, 8), []int{3}, evenTrack(14, 8)), 10, slices.Concat(evenTrack(5, 8), evenTrack(21, 3), evenTrack(4, 8))},
	} {
		if shoals, ok := impl.ShoalFilter(c.track, c.reach); !ok || !slices.Equal(shoals, c.want) {
			t.Error(c, shoals, ok)
		}
	}
}

func TestP12AShoalFilterNeverMakesATrackDeeper(t *testing.T) {
	tracks := slices.Concat(goodTracks(), tracksWith(3, 0, 1, 2, 3), tracksWith(4, -1, 0, 1), tracksWith(6, 0, 1, 2), tracksWith(9, 0, 1))
	changed := 0
	for _, track := range tracks {
		last := track
		for reach := range 11 {
			shoals, ok := impl.ShoalFilter(track, reach)
			if !ok || !slices.Equal(shoals, plainShoals(track, reach)) || !impl.IsTrack(shoals) {
				t.Fatal(track, reach, shoals, ok)
			}
			for i := range track {
				if shoals[i] > track[i] || shoals[i] > last[i] {
					t.Error(track, reach, shoals, i)
				}
			}
			if places, ok := impl.WhereShoaler(track, shoals); !ok || len(places) != 0 {
				t.Error(track, reach, shoals, places, ok)
			}
			if reach == 0 && !slices.Equal(shoals, track) {
				t.Error(track, shoals)
			}
			if !slices.Equal(shoals, track) {
				changed++
			}
			// The least depth is never lost.
			if slices.Min(shoals) != slices.Min(track) {
				t.Error(track, reach, shoals)
			}
			last = shoals
		}
	}
	if changed < 1000 {
		t.Error("few tracks were changed", changed)
	}
}

func TestP12ShoalFiltersOneAfterTheOtherReachAsFarAsBoth(t *testing.T) {
	for _, track := range goodTracks() {
		for a := range 11 {
			first, _ := impl.ShoalFilter(track, a)
			for b := range 11 - a {
				both, ok := impl.ShoalFilter(first, b)
				want, isDone := impl.ShoalFilter(track, a+b)
				if !ok || !isDone || !slices.Equal(both, want) {
					t.Error(track, a, b, both, want)
				}
			}
		}
	}
}

func TestP12ShoalFilterRefuses(t *testing.T) {
	check := func(track []int, reach int) {
		t.Helper()
		if shoals, ok := impl.ShoalFilter(track, reach); ok || len(shoals) != 0 {
			t.Error(track, reach, shoals, ok)
		}
	}
	for _, track := range goodTracks() {
		for _, reach := range wrongFilterReaches {
			check(track, reach)
		}
	}
	for _, track := range wrongTracks() {
		for _, reach := range []int{0, 1, 10, -1, 11, math.MaxInt, math.MinInt} {
			check(track, reach)
		}
	}
}

func TestP12RoughnessOf(t *testing.T) {
	for _, c := range []struct {
		track []int
		want  int
	}{
		{[]int{0, 5, 3}, 7}, {[]int{3, 5, 0}, 7}, {sampleTrack(), 458}, {[]int{7, 7, 7}, 0}, {[]int{1, 2, 3}, 2}, {[]int{3, 2, 1}, 2}, {[]int{0, 0, 1}, 1}, {[]int{1, 0, 0}, 1}, {[]int{-5, 5, -5}, 20}, {[]int{-1, -2, -3}, 2}, {[]int{-3, -1, -2}, 3}, {[]int{9, 0, 9}, 18},
		{[]int{-1000, 20000, -1000}, 42000}, {[]int{-1000, -1000, 20000}, 21000}, {[]int{20000, -1000, -1000}, 21000}, {zigzag(30, -1000, 20000), 609000}, {zigzag(30, 20000, -1000), 609000}, {evenTrack(30, 20000), 0}, {zigzag(30, 0, 1), 29}, {zigzag(4, 5, 2), 9},
	} {
		if n, ok := impl.RoughnessOf(c.track); !ok || n != c.want {
			t.Error(c, n, ok)
		}
	}
	for _, track := range slices.Concat(goodTracks(), tracksWith(4, -2, 0, 1, 3)) {
		turned := slices.Clone(track)
		slices.Reverse(turned)
		for _, way := range [][]int{track, turned} {
			if n, ok := impl.RoughnessOf(way); !ok || n != plainRoughness(track) {
				t.Error(way, n, ok)
			}
		}
	}
	for _, track := range wrongTracks() {
		if n, ok := impl.RoughnessOf(track); ok || n != 0 {
			t.Error(track, n, ok)
		}
	}
}

func TestP12LongestSmooth(t *testing.T) {
	x := sampleTrack()
	for _, c := range []struct {
		track               []int
		limit, first, count int
	}{
		{x, 5, 0, 2}, {x, 4, 3, 2}, {x, 3, 3, 2}, {x, 2, 0, 1}, {x, 1, 0, 1}, {x, 102, 0, 2}, {x, 103, 2, 3}, {x, 105, 0, 5}, {x, 119, 0, 5}, {x, 120, 0, 6}, {x, 121, 0, 6}, {x, 122, 0, 7}, {x, 5000, 0, 7},
		// Differences that just are and just are not more than the limit, down and up.
		{[]int{0, 5, 10}, 5, 0, 3}, {[]int{0, 5, 11}, 5, 0, 2}, {[]int{0, 6, 11}, 5, 1, 2}, {[]int{0, 6, 12}, 5, 0, 1}, {[]int{10, 5, 0}, 5, 0, 3}, {[]int{11, 5, 0}, 5, 1, 2}, {[]int{11, 6, 0}, 5, 0, 2}, {[]int{12, 6, 0}, 5, 0, 1}, {[]int{0, 5, 0}, 5, 0, 3}, {[]int{0, 6, 0}, 5, 0, 1}, {[]int{-2, 3, -2}, 5, 0, 3}, {[]int{-3, 3, -2}, 5, 1, 2},
		// The ends may be far apart.
		{[]int{0, 5, 10, 15, 20, 25}, 5, 0, 6}, {[]int{25, 20, 15, 10, 5, 0}, 5, 0, 6}, {[]int{0, 5, 10, 15, 21, 26, 31, 36}, 5, 0, 4}, {[]int{0, 5, 10, 15, 21, 26, 31, 36, 41}, 5, 4, 5},
		// Several of the same length; one in front, in the middle and behind.
		{[]int{0, 1, 100, 101, 200, 201}, 1, 0, 2}, {[]int{0, 100, 101, 200, 201, 300}, 1, 1, 2}, {[]int{0, 1, 2, 100, 101, 200}, 1, 0, 3}, {[]int{0, 100, 101, 102, 200, 201}, 1, 1, 3}, {[]int{0, 1, 100, 200, 201, 202}, 1, 3, 3}, {[]int{0, 100, 200, 201, 202, 300, 400, 401, 402}, 1, 2, 3}, {[]int{0, 1, 100, 101, 102, 200, 201, 202, 300, 301}, 1, 2, 3}, {[]int{0, 100, 200, 201}, 1, 2, 2}, {[]int{0, 1, 100, 200}, 1, 0, 2},
		// All of it, and nowhere.
		{[]int{7, 7, 7}, 1, 0, 3}, {evenTrack(30, 0), 1, 0, 30}, {zigzag(30, 0, 1), 1, 0, 30}, {zigzag(30, 0, 2), 1, 0, 1}, {zigzag(30, 0, 5000), 5000, 0, 30}, {zigzag(30, 0, 5001), 5000, 0, 1}, {zigzag(30, 0, 5000), 4999, 0, 1}, {zigzag(30, -1000, 20000), 5000, 0, 1}, {[]int{0, 2, 4}, 1, 0, 1}, {[]int{-1000, 20000, 20000}, 5000, 1, 2},
		{append(evenTrack(15, 0), evenTrack(15, 9)...), 1, 0, 15}, {append(evenTrack(14, 0), evenTrack(16, 9)...), 1, 14, 16}, {append(evenTrack(16, 0), evenTrack(14, 9)...), 1, 0, 16}, {append(evenTrack(29, 4), 9), 4, 0, 29}, {append([]int{9}, evenTrack(29, 4)...), 4, 1, 29}, {append([]int{9}, evenTrack(29, 4)...), 5, 0, 30},
	} {
		if first, count, ok := impl.LongestSmooth(c.track, c.limit); !ok || first != c.first || count != c.count {
			t.Error(c, first, count, ok)
		}
	}
}

func TestP12EveryLongestSmoothPart(t *testing.T) {
	check := func(track []int, limit int) {
		t.Helper()
		wantFirst, wantCount := plainSmooth(track, limit)
		if first, count, ok := impl.LongestSmooth(track, limit); !ok || first != wantFirst || count != wantCount {
			t.Error(track, limit, first, count, ok)
		}
	}
	for _, track := range goodTracks() {
		for _, limit := range limitsAround(track) {
			check(track, limit)
		}
	}
	for size := 3; size <= 7; size++ {
		for _, track := range tracksWith(size, 0, 1, 3) {
			for limit := 1; limit <= 3; limit++ {
				check(track, limit)
			}
		}
	}
}

func TestP12WhereShoaler(t *testing.T) {
	for _, c := range []struct{ track, other, want []int }{
		{[]int{1, 2, 3}, []int{2, 2, 4}, []int{0, 2}}, {[]int{2, 2, 4}, []int{1, 2, 3}, nil}, {[]int{1, 2, 3}, []int{1, 2, 3}, nil}, {[]int{1, 2, 3}, []int{3, 2, 1}, []int{0}}, {[]int{3, 2, 1}, []int{1, 2, 3}, []int{2}}, {[]int{1, 1, 1}, []int{2, 2, 2}, []int{0, 1, 2}}, {[]int{2, 2, 2}, []int{1, 1, 1}, nil}, {[]int{5, 0, 5}, []int{5, 1, 5}, []int{1}},
		{[]int{-1, -1, 0}, []int{0, -2, -1}, []int{0}}, {[]int{-1000, 20000, -1000}, []int{20000, -1000, 20000}, []int{0, 2}}, {[]int{-1000, 19999, -1000}, []int{-999, 20000, -1000}, []int{0, 1}}, {sampleTrack(), sampleTrack(), nil}, {sampleTrack(), []int{500, 500, 503, 500, 503, 500, 498}, []int{2, 4}}, {[]int{500, 500, 503, 500, 503, 500, 498}, sampleTrack(), []int{1, 3, 5}},
		{evenTrack(30, 5), evenTrack(30, 5), nil}, {evenTrack(30, 4), append(evenTrack(29, 4), 5), []int{29}}, {zigzag(30, 4, 5), evenTrack(30, 5), []int{0, 2, 4, 6, 8, 10, 12, 14, 16, 18, 20, 22, 24, 26, 28}},
	} {
		if places, ok := impl.WhereShoaler(c.track, c.other); !ok || !slices.Equal(places, c.want) {
			t.Error(c, places, ok)
		}
	}
}

func TestP12EveryTwoTracksAreCompared(t *testing.T) {
	tracks := slices.Concat(goodTracks(), tracksWith(3, -1, 0, 1))
	for _, track := range tracks {
		for _, other := range tracks {
			places, ok := impl.WhereShoaler(track, other)
			if len(track) != len(other) {
				if ok || len(places) != 0 {
					t.Error(track, other, places, ok)
				}
			} else if !ok || !slices.Equal(places, plainShoaler(track, other)) {
				t.Error(track, other, places, ok)
			}
		}
	}
	for _, wrong := range wrongTracks() {
		others := [][]int{evenTrack(len(wrong), 5), evenTrack(len(wrong), -1000), wrong, sampleTrack()}
		for _, other := range others {
			if places, ok := impl.WhereShoaler(wrong, other); ok || len(places) != 0 {
				t.Error(wrong, other, places, ok)
			}
			if places, ok := impl.WhereShoaler(other, wrong); ok || len(places) != 0 {
				t.Error(other, wrong, places, ok)
			}
		}
	}
}

func TestP12Flattened(t *testing.T) {
	x := sampleTrack()
	for _, c := range []struct {
		track []int
		limit int
		want  []int
		times int
	}{
		{x, 50, []int{500, 500, 503, 500, 503, 500, 498}, 1}, {x, 2, []int{500, 500, 500, 500, 500, 500, 498}, 3}, {x, 3, []int{500, 500, 503, 500, 503, 500, 498}, 1}, {x, 119, []int{500, 500, 503, 500, 503, 500, 498}, 1}, {x, 1, []int{500, 500, 500, 500, 500, 500, 498}, 3},
		// Not once, as there is no spike, or none that is greater than the limit.
		{x, 120, x, 0}, {x, 5000, x, 0}, {[]int{7, 7, 7}, 1, []int{7, 7, 7}, 0}, {[]int{0, 50, 0}, 50, []int{0, 50, 0}, 0}, {[]int{50, 0, 50}, 50, []int{50, 0, 50}, 0}, {[]int{0, 51, 1}, 50, []int{0, 51, 1}, 0}, {[]int{100, 0, 0, 100}, 1, []int{100, 0, 0, 100}, 0}, {[]int{0, 60, 60, 0}, 50, []int{0, 60, 60, 0}, 0}, {[]int{0, 100, 200}, 1, []int{0, 100, 200}, 0}, {evenTrack(30, 3), 1, evenTrack(30, 3), 0}, {zigzag(30, 0, 100), 100, zigzag(30, 0, 100), 0}, {zigzag(30, 0, 5000), 5000, zigzag(30, 0, 5000), 0},
		// Once: a spike down, one up, and all small ones that are beside it.
		{[]int{0, 51, 0}, 50, []int{0, 0, 0}, 1}, {[]int{51, 0, 51}, 50, []int{51, 51, 51}, 1}, {[]int{0, 52, 1}, 50, []int{0, 1, 1}, 1}, {[]int{-1000, 20000, -1000}, 5000, evenTrack(3, -1000), 1}, {[]int{20000, -1000, 20000}, 5000, evenTrack(3, 20000), 1}, {[]int{0, 3, 0, 3, 0, 500, 0}, 10, []int{0, 0, 3, 0, 3, 0, 0}, 1}, {[]int{0, 60, 0, 60}, 50, []int{0, 0, 60, 60}, 1},
		// Several times, each as long as there is a spike.
		{[]int{0, 60, 0, 60, 0}, 50, evenTrack(5, 0), 2}, {[]int{60, 0, 60, 0, 60}, 50, evenTrack(5, 60), 2}, {zigzag(7, 0, 100), 50, evenTrack(7, 0), 3}, {zigzag(7, 0, 100), 99, evenTrack(7, 0), 3}, {[]int{0, 3, 0, 3, 0, 500, 0}, 2, evenTrack(7, 0), 3}, {[]int{0, 60, 0, 3, 0, 60, 0}, 50, []int{0, 0, 3, 0, 3, 0, 0}, 1},
		{zigzag(30, 0, 100), 99, append(evenTrack(15, 0), evenTrack(15, 100)...), 14}, {zigzag(30, 100, 0), 1, append(evenTrack(15, 100), evenTrack(15, 0)...), 14}, {zigzag(29, 0, 100), 50, evenTrack(29, 0), 14}, {zigzag(29, 5001, 0), 5000, evenTrack(29, 5001), 14}, {zigzag(28, 0, 100), 50, append(evenTrack(14, 0), evenTrack(14, 100)...), 13}, {zigzag(30, -1000, 20000), 5000, append(evenTrack(15, -1000), evenTrack(15, 20000)...), 14},
	} {
		if flat, times, ok := impl.Flattened(c.track, c.limit); !ok || times != c.times || !slices.Equal(flat, c.want) {
			t.Error(c, flat, times, ok)
		}
	}
}

func TestP12EveryFlattenedTrack(t *testing.T) {
	most := 0
	check := func(track []int, limit int) {
		t.Helper()
		want, wantTimes := plainFlat(track, limit)
		flat, times, ok := impl.Flattened(track, limit)
		if !ok || times != wantTimes || times > impl.MaxTrack || !slices.Equal(flat, want) {
			t.Error(track, limit, flat, times, ok)
		}
		most = max(most, times)
		// What is flat has no spikes, and is not made flatter.
		if up, down, ok := impl.SpikesIn(flat, limit); !ok || len(up) != 0 || len(down) != 0 {
			t.Error(track, limit, flat, up, down, ok)
		}
		if again, times, ok := impl.Flattened(flat, limit); !ok || times != 0 || !slices.Equal(again, flat) {
			t.Error(track, limit, flat, again, times, ok)
		}
	}
	for _, track := range goodTracks() {
		for _, limit := range limitsAround(track) {
			check(track, limit)
		}
	}
	for size := 3; size <= 7; size++ {
		for _, track := range tracksWith(size, 0, 2, 5) {
			for limit := 1; limit <= 5; limit++ {
				check(track, limit)
			}
		}
	}
	if most < 10 {
		t.Error("no track was flattened often", most)
	}
}

func TestP29TrackFunctionsLeaveTheirArguments(t *testing.T) {
	// What lies behind the lengths of the track and of the others is neither read nor written.
	whole := []int{30, 90, 20, 80, 25, 20001, -1001, 40}
	others := []int{40, 85, 30, 80, 24, 99, 99, 99}
	keeps := []int{1, 0, 1, 1, 0, 2, -1, 1}
	before, othersBefore, keepsBefore := slices.Clone(whole), slices.Clone(others), slices.Clone(keeps)
	for size := range len(whole) + 1 {
		track, other, keep := whole[:size], others[:size], keeps[:size]
		valid := 3 <= size && size <= 5
		kept := before[:min(size, 5)]
		if impl.IsTrack(track) != valid {
			t.Error("IsTrack", size)
		}
		up, down, ok := impl.SpikesIn(track, 50)
		rejected, isRejected := impl.RejectDown(track, 50)
		left, isLeft := impl.KeptDepths(track, keep)
		medians, isFiltered := impl.MedianFilter(track)
		shoals, isShoaled := impl.ShoalFilter(track, 2)
		rough, isRough := impl.RoughnessOf(track)
		first, count, isFound := impl.LongestSmooth(track, 60)
		places, isCompared := impl.WhereShoaler(track, other)
		flat, times, isFlat := impl.Flattened(track, 50)
		for name, isDone := range map[string]bool{"SpikesIn": ok, "RejectDown": isRejected, "KeptDepths": isLeft, "MedianFilter": isFiltered, "ShoalFilter": isShoaled, "RoughnessOf": isRough, "LongestSmooth": isFound, "WhereShoaler": isCompared, "Flattened": isFlat} {
			if isDone != valid {
				t.Error(name, size, isDone)
			}
		}
		if !valid {
			if len(up)+len(down)+len(rejected)+len(left)+len(medians)+len(shoals)+rough+first+count+len(places)+len(flat)+times != 0 {
				t.Error("results of no track", size)
			}
			continue
		}
		wantUp, wantDown := plainSpikes(kept, 50)
		wantFirst, wantCount := plainSmooth(kept, 60)
		wantFlat, wantTimes := plainFlat(kept, 50)
		if !slices.Equal(up, wantUp) || !slices.Equal(down, wantDown) || !slices.Equal(rejected, plainKeep(kept, 50)) {
			t.Error("spikes", size, up, down, rejected)
		}
		if !slices.Equal(left, [][]int{{30, 20}, {30, 20, 80}, {30, 20, 80}}[size-3]) || !slices.Equal(places, [][]int{{0, 2}, {0, 2}, {0, 2}}[size-3]) {
			t.Error("kept and shoaler", size, left, places)
		}
		if !slices.Equal(medians, plainMedians(kept)) || !slices.Equal(shoals, plainShoals(kept, 2)) || !slices.Equal(flat, wantFlat) || times != wantTimes {
			t.Error("filtered", size, medians, shoals, flat, times)
		}
		if rough != plainRoughness(kept) || first != wantFirst || count != wantCount {
			t.Error("rough and smooth", size, rough, first, count)
		}
	}
	if !slices.Equal(whole, before) || !slices.Equal(others, othersBefore) || !slices.Equal(keeps, keepsBefore) {
		t.Error("the arguments are now", whole, others, keeps)
	}
}

// trackResults returns all slices that the functions return for a track, in a fixed order.
func trackResults(track, other, keep []int, limit int) [][]int {
	up, down, _ := impl.SpikesIn(track, limit)
	rejected, _ := impl.RejectDown(track, limit)
	kept, _ := impl.KeptDepths(track, keep)
	medians, _ := impl.MedianFilter(track)
	same, _ := impl.ShoalFilter(track, 0)
	shoals, _ := impl.ShoalFilter(track, 2)
	places, _ := impl.WhereShoaler(track, other)
	flat, _, _ := impl.Flattened(track, limit)
	return [][]int{up, down, rejected, kept, medians, same, shoals, places, flat}
}

func TestP29TrackResultsShareNothing(t *testing.T) {
	for _, original := range append(goodTracks(), zigzag(20, 0, 100)) {
		size := len(original)
		// The arguments have room behind their length, in which no result may lie.
		track, other, keep := make([]int, size, 64), make([]int, size, 64), make([]int, size, 64)
		copy(track, original)
		copy(other, evenTrack(size, 20000))
		copy(keep, evenTrack(size, 1))
		// With the greatest limit most tracks are flattened not once.
		for _, limit := range []int{1, 50, 5000} {
			first, second := trackResults(track, other, keep, limit), trackResults(track, other, keep, limit)
			for i, result := range first {
				if !slices.Equal(result, second[i]) {
					t.Error("other results", original, limit, i)
				}
				room := result[:cap(result)]
				for k := range room {
					room[k] = -7
				}
				_ = append(result, -8)
				// The results behind this one and those of the second call are untouched.
				for k := i + 1; k < len(first); k++ {
					if !slices.Equal(first[k], second[k]) {
						t.Error("shared with another result", original, limit, i, k)
					}
				}
			}
			if !slices.EqualFunc(second, trackResults(original, evenTrack(size, 20000), evenTrack(size, 1), limit), slices.Equal[[]int]) {
				t.Error("shared with the results of another call", original, limit)
			}
		}
		behind := make([]int, 64-size)
		if !slices.Equal(track[:64], slices.Concat(original, behind)) || !slices.Equal(other[:64], slices.Concat(evenTrack(size, 20000), behind)) || !slices.Equal(keep[:64], slices.Concat(evenTrack(size, 1), behind)) {
			t.Error("the arguments are now", track[:64], other[:64], keep[:64])
		}
	}
}

func TestP29OneTrackTwice(t *testing.T) {
	// An argument may be the other one too.
	for _, original := range append(goodTracks(), []int{0, 1, 0}, []int{1, 1, 1}, []int{0, 0, 0}) {
		track := slices.Clone(original)
		if places, ok := impl.WhereShoaler(track, track); !ok || len(places) != 0 {
			t.Error(track, places, ok)
		}
		isKeep := !slices.ContainsFunc(original, func(n int) bool { return n != 0 && n != 1 })
		kept, ok := impl.KeptDepths(track, track)
		if ok != isKeep || slices.ContainsFunc(kept, func(n int) bool { return n != 1 }) {
			t.Error(track, kept, ok)
		}
		if !slices.Equal(track, original) {
			t.Error("the track is now", track, original)
		}
	}
}

func TestP29TrackFunctionsReturnForAllArguments(t *testing.T) {
	numbers := []int{math.MinInt, math.MinInt + 1, -5000, -1001, -1000, -1, 0, 1, 2, 10, 11, 50, 5000, 5001, 20000, 20001, 1 << 62, -1 << 62, math.MaxInt - 1, math.MaxInt}
	for _, a := range numbers {
		for _, b := range numbers {
			checkTrack(t, nil, []int{a, b}, a)
			checkTrack(t, []int{a, b}, []int{b, a}, b)
			checkTrack(t, []int{a, b, a}, []int{b, a, b}, a)
			checkTrack(t, []int{b, a, 5, b}, []int{a, 1, b, 0}, b)
			checkTrack(t, zigzag(30, a, b), zigzag(30, b, a), a)
			checkTrack(t, zigzag(31, a, b), zigzag(31, 0, 1), b)
			checkTrack(t, sampleTrack(), zigzag(7, a, b), a)
			checkTrack(t, manyDepths(30), zigzag(30, a, b), b)
			checkTrack(t, manyDepths(30), evenTrack(3, a), b)
		}
	}
	long := evenTrack(1000000, 1)
	checkTrack(t, long, long, 1)
	checkTrack(t, sampleTrack(), long, 1)
	checkTrack(t, long, sampleTrack(), 1)
}

// checkTrack tells whether the functions of a track return something only if they succeed.
func checkTrack(t *testing.T, track, other []int, n int) {
	t.Helper()
	valid := impl.IsTrack(track)
	isLimit, isKeep := valid && 1 <= n && n <= 5000, valid && len(track) == len(other)
	for _, m := range other {
		isKeep = isKeep && (m == 0 || m == 1)
	}
	if up, down, ok := impl.SpikesIn(track, n); ok != isLimit || len(up)+len(down) > max(0, len(track)-2) || !ok && len(up)+len(down) != 0 {
		t.Error("spikes", n, up, down, ok)
	}
	if keep, ok := impl.RejectDown(track, n); ok != isLimit || ok && len(keep) != len(track) || !ok && len(keep) != 0 {
		t.Error("rejected", n, keep, ok)
	}
	if kept, ok := impl.KeptDepths(track, other); ok != isKeep || len(kept) > len(track) || !ok && len(kept) != 0 {
		t.Error("kept", other, kept, ok)
	}
	if medians, ok := impl.MedianFilter(track); ok != valid || ok && !impl.IsTrack(medians) || !ok && len(medians) != 0 {
		t.Error("medians", medians, ok)
	}
	if shoals, ok := impl.ShoalFilter(track, n); ok != (valid && 0 <= n && n <= 10) || ok && !impl.IsTrack(shoals) || !ok && len(shoals) != 0 {
		t.Error("shoals", n, shoals, ok)
	}
	if sum, ok := impl.RoughnessOf(track); ok != valid || sum < 0 || sum > 609000 || !ok && sum != 0 {
		t.Error("roughness", sum, ok)
	}
	if first, count, ok := impl.LongestSmooth(track, n); ok != isLimit || ok && (first < 0 || count < 1 || first+count > len(track)) || !ok && (first != 0 || count != 0) {
		t.Error("smooth", n, first, count, ok)
	}
	if places, ok := impl.WhereShoaler(track, other); ok != (valid && impl.IsTrack(other) && len(track) == len(other)) || len(places) > len(track) || !ok && len(places) != 0 {
		t.Error("shoaler", places, ok)
	}
	if flat, times, ok := impl.Flattened(track, n); ok != isLimit || ok && (!impl.IsTrack(flat) || times < 0 || times > 30) || !ok && (len(flat) != 0 || times != 0) {
		t.Error("flattened", n, flat, times, ok)
	}
}
