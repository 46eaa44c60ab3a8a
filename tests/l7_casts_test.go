package tests

import (
	"math"
	"math/big"
	"slices"
	"testing"

	"loop.example/g01031/impl"
)

// layersOf makes layers of pairs of a Depth and a Speed.
func layersOf(numbers ...int) []impl.Layer {
	list := []impl.Layer{}
	for i := 0; i+1 < len(numbers); i += 2 {
		list = append(list, impl.Layer{Depth: numbers[i], Speed: numbers[i+1]})
	}
	return list
}

// castOf makes a Cast with layers of pairs of a Depth and a Speed.
func castOf(numbers ...int) impl.Cast {
	return impl.Cast{Id: 7, Time: 100, At: impl.Spot{X: 5, Y: 6}, Layers: layersOf(numbers...)}
}

// castWith changes a valid Cast.
func castWith(change func(*impl.Cast)) impl.Cast {
	c := castOf(0, 15000, 1500, 14800)
	change(&c)
	return c
}

// manyLayers are layers of which none is as thick or as fast as another.
func manyLayers(count int) []impl.Layer {
	list := []impl.Layer{}
	for i := range count {
		list = append(list, impl.Layer{Depth: 40*i + 17*i*i, Speed: 15000 + 61*i*(1-2*(i%2))})
	}
	return list
}

// manyCasts are Casts with Ids that fall while their Times rise.
func manyCasts(count int) []impl.Cast {
	list := []impl.Cast{}
	for i := range count {
		list = append(list, impl.Cast{Id: 50 - 3*i, Time: 100 + 60*i, At: impl.Spot{X: 90 * i, Y: 7 + i}, Layers: manyLayers(i%8 + 1)})
	}
	return list
}

// sameCast tells whether two Casts have the same content.
func sameCast(a, b impl.Cast) bool {
	return a.Id == b.Id && a.Time == b.Time && a.At == b.At && slices.Equal(a.Layers, b.Layers)
}

// isNoCast tells whether c is a zero struct.
func isNoCast(c impl.Cast) bool { return sameCast(c, impl.Cast{}) }

// ownCast returns a copy that shares no memory.
func ownCast(c impl.Cast) impl.Cast {
	c.Layers = slices.Clone(c.Layers)
	return c
}

// ownCasts returns copies that share no memory.
func ownCasts(list []impl.Cast) []impl.Cast {
	own := []impl.Cast{}
	for _, c := range list {
		own = append(own, ownCast(c))
	}
	return own
}

// goodCasts are at the limits or within them.
func goodCasts() []impl.Cast {
	list := []impl.Cast{
		castOf(0, 14000), castOf(0, 16000), castOf(0, 15000), castOf(0, 14999),
		castOf(0, 15000, 1500, 14800), castOf(0, 14800, 1500, 15000),
		// A layer of one centimeter, at the surface and at the greatest depth.
		castOf(0, 14001, 1, 15999), castOf(0, 14001, 19999, 15999), castOf(0, 16000, 20000, 14000), castOf(0, 15000, 19999, 14500, 20000, 15100),
		// Layers with the same Speed, and thin ones in which most is rounded off.
		castOf(0, 15000, 700, 15000), castOf(0, 15000, 700, 15000, 701, 15000, 702, 14000, 703, 14000),
		castOf(0, 15999, 1, 15999, 2, 15999, 3, 15999, 4, 15999, 5, 15999, 6, 15999, 7, 15999),
		castOf(0, 14999, 19993, 15999, 19994, 15998, 19995, 15997, 19996, 15996, 19997, 15995, 19998, 15994, 20000, 15993),
		castWith(func(c *impl.Cast) { c.Id = 1 }), castWith(func(c *impl.Cast) { c.Id = 99 }),
		castWith(func(c *impl.Cast) { c.Time = 0 }), castWith(func(c *impl.Cast) { c.Time = 10000 }),
		castWith(func(c *impl.Cast) { c.At = impl.Spot{} }), castWith(func(c *impl.Cast) { c.At = impl.Spot{X: 1000, Y: 1000} }),
	}
	for count := 1; count <= impl.MaxLayers; count++ {
		list = append(list, castWith(func(c *impl.Cast) { c.Layers = manyLayers(count) }))
	}
	return list
}

// wrongLayerLists are none, too many, not from the surface on, not ascending, or with a number beyond a limit.
func wrongLayerLists() [][]impl.Layer {
	lists := [][]impl.Layer{
		nil, {}, {{}}, manyLayers(impl.MaxLayers + 1), manyLayers(12),
		layersOf(1, 15000), layersOf(-1, 15000), layersOf(20000, 15000), layersOf(20001, 15000), layersOf(math.MinInt, 15000), layersOf(math.MaxInt, 15000),
		layersOf(1, 15000, 2, 15000), layersOf(-1, 15000, 0, 15000), layersOf(1500, 15000, 3000, 14800), layersOf(15000, 0),
		layersOf(0, 15000, 0, 15000), layersOf(0, 15000, 0, 14800), layersOf(0, 15000, 1500, 14800, 1500, 14800), layersOf(0, 15000, 1500, 14800, 1500, 14900),
		layersOf(0, 15000, 1500, 14800, 1499, 14900), layersOf(0, 15000, 1500, 14800, 0, 14900), layersOf(0, 15000, 20000, 14800, 20000, 14900),
		layersOf(0, 15000, 1, 14800, 1, 14900), layersOf(0, 15000, 20000, 14800, 1500, 14900), layersOf(0, 15000, 3000, 15000, 1500, 15000, 4000, 15000),
	}
	for _, n := range []int{math.MinInt, -20000, -1, 20001, math.MaxInt} {
		lists = append(lists, layersOf(0, 15000, n, 14800), layersOf(0, 15000, 1500, 14900, n, 14800), layersOf(0, 15000, n, 14900, 1500, 14800))
	}
	for _, n := range []int{math.MinInt, -15000, 0, 1500, 13999, 16001, math.MaxInt} {
		lists = append(lists, layersOf(0, n), layersOf(0, n, 1500, 14800), layersOf(0, 15000, 1500, n), layersOf(0, 15000, 1500, n, 1600, 14800))
	}
	return lists
}

// wrongCasts are beyond one limit each, by one or by far.
func wrongCasts() []impl.Cast {
	list := []impl.Cast{{}, {Id: 1}}
	for _, n := range []int{math.MinInt, -1, 0, 100, math.MaxInt} {
		list = append(list, castWith(func(c *impl.Cast) { c.Id = n }))
	}
	for _, n := range []int{math.MinInt, -1, 10001, math.MaxInt} {
		list = append(list, castWith(func(c *impl.Cast) { c.Time = n }))
	}
	for _, p := range wrongPlaces {
		list = append(list, castWith(func(c *impl.Cast) { c.At = p }))
	}
	for _, layers := range wrongLayerLists() {
		list = append(list, castWith(func(c *impl.Cast) { c.Layers = layers }))
	}
	return list
}

// wrongPlaces are no Spots.
var wrongPlaces = []impl.Spot{
	{X: -1, Y: 5}, {X: 5, Y: -1}, {X: 1001, Y: 5}, {X: 5, Y: 1001}, {X: -1, Y: -1},
	{X: math.MinInt, Y: 5}, {X: 5, Y: math.MinInt}, {X: math.MaxInt, Y: 5}, {X: 5, Y: math.MaxInt},
}

// wrongCastLists are too many, not in order, with an Id twice, or with one Cast that is not valid.
func wrongCastLists() [][]impl.Cast {
	lists := [][]impl.Cast{manyCasts(impl.MaxCasts + 1), manyCasts(9)}
	for count := 2; count <= impl.MaxCasts; count++ {
		sooner, equal, again := manyCasts(count), manyCasts(count), manyCasts(count)
		sooner[count-1].Time = sooner[count-2].Time - 1
		equal[count-1].Time = equal[count-2].Time
		again[count-1].Id = again[0].Id
		lists = append(lists, sooner, equal, again)
		for i := range count - 1 {
			next := manyCasts(count)
			next[i+1].Id = next[i].Id
			lists = append(lists, next)
		}
	}
	for _, wrong := range wrongCasts() {
		for i := range 3 {
			list := manyCasts(3)
			if wrong.Time == 100 {
				wrong.Time = list[i].Time
			}
			list[i] = wrong
			lists = append(lists, list)
		}
		lists = append(lists, []impl.Cast{wrong})
	}
	return lists
}

// wrongReaches are depths beyond 0..20000.
var wrongReaches = []int{math.MinInt, -20000, -1, 20001, 40000, math.MaxInt}

// plainSpeed is, by the document's words, the Speed at a depth.
func plainSpeed(c impl.Cast, depth int) int {
	speed := 0
	for _, l := range c.Layers {
		if l.Depth <= depth {
			speed = l.Speed
		}
	}
	return speed
}

// plainThick returns, by the document's words, how thick each layer is above a depth.
func plainThick(c impl.Cast, depth int) []int {
	thick := make([]int, len(c.Layers))
	for i, l := range c.Layers {
		end := math.MaxInt
		if i+1 < len(c.Layers) {
			end = c.Layers[i+1].Depth
		}
		thick[i] = max(0, min(end, depth)-l.Depth)
	}
	return thick
}

// plainTravel is, by the document's words, the travel down to a depth.
func plainTravel(c impl.Cast, depth int) int {
	travel := 0
	for i, thick := range plainThick(c, depth) {
		travel += thick * 100000 / c.Layers[i].Speed
	}
	return travel
}

// plainMean is, by the document's words, the mean Speed down to a depth.
func plainMean(c impl.Cast, depth int) *big.Rat {
	sum := new(big.Rat)
	for i, thick := range plainThick(c, depth) {
		sum.Add(sum, big.NewRat(int64(thick*c.Layers[i].Speed), int64(depth)))
	}
	return sum
}

// reachesOf returns depths from 0 to 20000: where layers begin, the centimeters beside that and some between.
func reachesOf(c impl.Cast) []int {
	depths := []int{0, 1, 2, 19999, 20000}
	for _, l := range c.Layers {
		depths = append(depths, l.Depth-1, l.Depth, l.Depth+1)
	}
	for depth := 3; depth < 20000; depth += 613 {
		depths = append(depths, depth)
	}
	depths = slices.DeleteFunc(depths, func(depth int) bool { return depth < 0 || depth > 20000 })
	slices.Sort(depths)
	return slices.Compact(depths)
}

func TestP7IsCast(t *testing.T) {
	for _, c := range goodCasts() {
		if !impl.IsCast(c) {
			t.Error("not valid", c)
		}
	}
	for _, c := range wrongCasts() {
		if impl.IsCast(c) {
			t.Error("valid", c)
		}
	}
	for n := -10; n <= 110; n++ {
		if impl.IsCast(castWith(func(c *impl.Cast) { c.Id = n })) != (1 <= n && n <= 99) {
			t.Error("id", n)
		}
	}
	for n := -10; n <= 10010; n++ {
		if impl.IsCast(castWith(func(c *impl.Cast) { c.Time = n })) != (0 <= n && n <= 10000) {
			t.Error("time", n)
		}
	}
	for n := -10; n <= 1010; n++ {
		valid := 0 <= n && n <= 1000
		if impl.IsCast(castWith(func(c *impl.Cast) { c.At.X = n })) != valid || impl.IsCast(castWith(func(c *impl.Cast) { c.At.Y = n })) != valid {
			t.Error("spot", n)
		}
	}
}

func TestP7TheLayersOfACast(t *testing.T) {
	for count := range 12 {
		c := castWith(func(c *impl.Cast) { c.Layers = manyLayers(count) })
		if impl.IsCast(c) != (1 <= count && count <= 8) {
			t.Error("count", count)
		}
	}
	for n := -10; n <= 20100; n++ {
		if impl.IsCast(castOf(n, 15000)) != (n == 0) {
			t.Error("first depth", n)
		}
		if impl.IsCast(castOf(0, 15000, n, 14800)) != (1 <= n && n <= 20000) {
			t.Error("second depth", n)
		}
		if impl.IsCast(castOf(0, 15000, 1500, 14900, n, 14800)) != (1501 <= n && n <= 20000) {
			t.Error("third depth", n)
		}
		valid := 14000 <= n && n <= 16000
		if impl.IsCast(castOf(0, n)) != valid || impl.IsCast(castOf(0, 15000, 20000, n)) != valid || impl.IsCast(castOf(0, 15000, 7, n, 8, 15000)) != valid {
			t.Error("speed", n)
		}
	}
}

func TestP7TheWrongLayerOfManyIsFound(t *testing.T) {
	for i := range impl.MaxLayers {
		depth := manyLayers(impl.MaxLayers)[i].Depth
		for _, wrong := range layersOf(-1, 15000, 20001, 15000, depth, 13999, depth, 16001) {
			c := castWith(func(c *impl.Cast) { c.Layers = manyLayers(impl.MaxLayers) })
			c.Layers[i] = wrong
			if impl.IsCast(c) {
				t.Error("valid", c)
			}
		}
		if i > 0 {
			c := castWith(func(c *impl.Cast) { c.Layers = manyLayers(impl.MaxLayers) })
			c.Layers[i].Depth = c.Layers[i-1].Depth
			if impl.IsCast(c) {
				t.Error("equal depths", c)
			}
		}
	}
}

func TestP7AreCasts(t *testing.T) {
	for count := range 10 {
		if impl.AreCasts(manyCasts(count)) != (count <= 6) {
			t.Error("count", count)
		}
	}
	if !impl.AreCasts(nil) || !impl.AreCasts([]impl.Cast{}) {
		t.Error("no casts")
	}
	for _, c := range goodCasts() {
		if !impl.AreCasts([]impl.Cast{c}) {
			t.Error("one cast", c)
		}
	}
	for _, list := range wrongCastLists() {
		if impl.AreCasts(list) {
			t.Error("valid", list)
		}
	}
	// Only the Times must differ by at least one; Spots and Layers may be equal.
	list := manyCasts(6)
	for i := range list {
		list[i].Time, list[i].At, list[i].Layers = 9995+i, impl.Spot{}, layersOf(0, 15000)
	}
	if !impl.AreCasts(list) {
		t.Error("successive minutes")
	}
	list[5].Time = 10001
	if impl.AreCasts(list) {
		t.Error("too late")
	}
	for i := range 6 {
		for k := range i {
			list := manyCasts(6)
			list[i].Id = list[k].Id
			if impl.AreCasts(list) {
				t.Error("equal ids", k, i)
			}
		}
		for _, by := range []int{59, 60, 61} {
			list := manyCasts(6)
			list[i].Time -= by
			if impl.AreCasts(list) != (i == 0 || by < 60) {
				t.Error("times", i, by)
			}
		}
	}
}

func TestP7SpeedAt(t *testing.T) {
	two := castOf(0, 15000, 1500, 14800)
	for _, c := range []struct {
		cast        impl.Cast
		depth, want int
	}{
		// Where a layer begins and one centimeter beside it.
		{two, 0, 15000}, {two, 1, 15000}, {two, 1499, 15000}, {two, 1500, 14800}, {two, 1501, 14800}, {two, 19999, 14800}, {two, 20000, 14800},
		{castOf(0, 14000), 0, 14000}, {castOf(0, 16000), 20000, 16000},
		{castOf(0, 16000, 20000, 14000), 19999, 16000}, {castOf(0, 16000, 20000, 14000), 20000, 14000},
		{castOf(0, 14001, 1, 15999), 0, 14001}, {castOf(0, 14001, 1, 15999), 1, 15999},
		{castOf(0, 15000, 10, 15100, 11, 15200), 9, 15000}, {castOf(0, 15000, 10, 15100, 11, 15200), 10, 15100}, {castOf(0, 15000, 10, 15100, 11, 15200), 11, 15200},
		{castOf(0, 15000, 10, 15000, 20, 15100), 10, 15000}, {castOf(0, 15000, 10, 15000, 20, 15100), 19, 15000}, {castOf(0, 15000, 10, 15000, 20, 15100), 20, 15100},
	} {
		if n, ok := impl.SpeedAt(c.cast, c.depth); !ok || n != c.want {
			t.Error(c, n, ok)
		}
	}
	for _, c := range goodCasts() {
		for depth := range 20001 {
			if n, ok := impl.SpeedAt(c, depth); !ok || n != plainSpeed(c, depth) {
				t.Fatal(c, depth, n, ok)
			}
		}
	}
}

func TestP7TravelTo(t *testing.T) {
	two := castOf(0, 15000, 1500, 14800)
	for _, c := range []struct {
		cast        impl.Cast
		depth, want int
	}{
		{two, 0, 0}, {two, 1, 6}, {two, 3, 20}, {two, 1499, 9993}, {two, 1500, 10000}, {two, 1501, 10006}, {two, 3000, 20135}, {two, 20000, 135000},
		{castOf(0, 14000), 20000, 142857}, {castOf(0, 16000), 20000, 125000}, {castOf(0, 16000), 1, 6}, {castOf(0, 16000), 4, 25}, {castOf(0, 14000), 1, 7},
		// Each layer is rounded down by itself, also if its Speed is that of the one above it.
		{castOf(0, 15000, 1, 15000), 2, 12}, {castOf(0, 15000), 2, 13}, {castOf(0, 15000, 1, 15000, 2, 15000), 3, 18}, {castOf(0, 15000), 3, 20},
		{castOf(0, 15000, 1, 15000, 2, 15000), 2, 12}, {castOf(0, 15000, 1, 15000, 2, 15000), 5, 32}, {castOf(0, 14000, 2, 15000, 4, 16000), 7, 45},
		// A layer that begins at the depth is not above it.
		{castOf(0, 16000, 20000, 14000), 20000, 125000}, {castOf(0, 16000, 19999, 14000), 20000, 125000}, {castOf(0, 16000, 19996, 14000), 20000, 125003},
		{castOf(0, 15000, 700, 15000), 700, 4666}, {castOf(0, 15000, 700, 15000), 699, 4660}, {castOf(0, 15000, 700, 15000), 701, 4672},
	} {
		if n, ok := impl.TravelTo(c.cast, c.depth); !ok || n != c.want {
			t.Error(c, n, ok)
		}
	}
	for _, c := range goodCasts() {
		for depth := range 20001 {
			if n, ok := impl.TravelTo(c, depth); !ok || n != plainTravel(c, depth) {
				t.Fatal(c, depth, n, ok)
			}
		}
	}
}

func TestP7SpeedsAndTravelsAreRefused(t *testing.T) {
	check := func(c impl.Cast, depth int) {
		if n, ok := impl.SpeedAt(c, depth); ok || n != 0 {
			t.Error("speed", c, depth, n, ok)
		}
		if n, ok := impl.TravelTo(c, depth); ok || n != 0 {
			t.Error("travel", c, depth, n, ok)
		}
		if num, den, ok := impl.MeanSpeed(c, depth); ok || num != 0 || den != 0 {
			t.Error("mean", c, depth, num, den, ok)
		}
	}
	for _, c := range goodCasts() {
		for _, depth := range wrongReaches {
			check(c, depth)
		}
	}
	for _, c := range wrongCasts() {
		for _, depth := range []int{0, 1, 1500, 20000} {
			check(c, depth)
		}
	}
}

func TestP7DepthFor(t *testing.T) {
	two := castOf(0, 15000, 1500, 14800)
	for _, c := range []struct {
		cast         impl.Cast
		micros, want int
	}{
		{two, 0, 0}, {two, 5, 0}, {two, 6, 1}, {two, 12, 1}, {two, 13, 2},
		// Just a depth, and one microsecond less.
		{two, 10000, 1500}, {two, 9999, 1499}, {two, 10006, 1501}, {two, 10005, 1500}, {two, 20135, 3000}, {two, 20134, 2999},
		{two, 135000, 20000}, {two, 134999, 19999}, {two, 135001, 20000}, {two, 999999, 20000}, {two, 1000000, 20000},
		{castOf(0, 14000), 142857, 20000}, {castOf(0, 14000), 142856, 19999}, {castOf(0, 14000), 1000000, 20000}, {castOf(0, 14000), 7, 1}, {castOf(0, 14000), 6, 0},
		{castOf(0, 16000), 125000, 20000}, {castOf(0, 16000), 124999, 19999}, {castOf(0, 16000), 6, 1}, {castOf(0, 16000), 5, 0},
		{castOf(0, 15000, 1, 15000), 12, 2}, {castOf(0, 15000), 12, 1}, {castOf(0, 15000, 700, 15000), 4666, 700}, {castOf(0, 15000, 700, 15000), 4672, 701},
		{castOf(0, 15000, 700, 15000), 4671, 700}, {castOf(0, 16000, 20000, 14000), 125000, 20000},
	} {
		if n, ok := impl.DepthFor(c.cast, c.micros); !ok || n != c.want {
			t.Error(c, n, ok)
		}
	}
}

func TestP7SoundTravelsToTheDepthAndNotACentimeterDeeper(t *testing.T) {
	for _, c := range goodCasts() {
		depth := 0
		for micros := 0; micros <= 143000; micros++ {
			for depth < 20000 && plainTravel(c, depth+1) <= micros {
				depth++
			}
			n, ok := impl.DepthFor(c, micros)
			if !ok || n != depth {
				t.Fatal("not the greatest depth", c, micros, n, depth, ok)
			}
		}
	}
}

func TestP7TheDepthForATravelIsTheDepth(t *testing.T) {
	for _, c := range goodCasts() {
		for depth := range 20001 {
			travel, isTravel := impl.TravelTo(c, depth)
			n, ok := impl.DepthFor(c, travel)
			if !isTravel || !ok || n != depth {
				t.Fatal(c, depth, travel, n)
			}
			if depth == 0 {
				continue
			}
			if n, ok := impl.DepthFor(c, travel-1); !ok || n != depth-1 {
				t.Fatal("one microsecond less", c, depth, travel, n)
			}
		}
		for micros := 143000; micros <= 1000000; micros += 857 {
			if n, ok := impl.DepthFor(c, micros); !ok || n != 20000 {
				t.Fatal("long enough for all", c, micros, n)
			}
		}
	}
}

func TestP7DepthForRefuses(t *testing.T) {
	for _, c := range goodCasts() {
		for _, micros := range []int{math.MinInt, -1000000, -1, 1000001, 2000000, math.MaxInt} {
			if n, ok := impl.DepthFor(c, micros); ok || n != 0 {
				t.Error(c, micros, n, ok)
			}
		}
	}
	for _, c := range wrongCasts() {
		for _, micros := range []int{0, 1, 10000, 1000000} {
			if n, ok := impl.DepthFor(c, micros); ok || n != 0 {
				t.Error(c, micros, n, ok)
			}
		}
	}
}

func TestP7MeanSpeed(t *testing.T) {
	two := castOf(0, 15000, 1500, 14800)
	for _, c := range []struct {
		cast            impl.Cast
		depth, num, den int
	}{
		{two, 1, 15000, 1}, {two, 1499, 15000, 1}, {two, 1500, 15000, 1}, {two, 1501, 22514800, 1501}, {two, 3000, 14900, 1}, {two, 20000, 14815, 1},
		{castOf(0, 14000), 1, 14000, 1}, {castOf(0, 14000), 20000, 14000, 1}, {castOf(0, 16000), 20000, 16000, 1}, {castOf(0, 14999), 7, 14999, 1},
		{castOf(0, 14001, 1, 15999), 1, 14001, 1}, {castOf(0, 14001, 1, 15999), 2, 15000, 1}, {castOf(0, 14000, 1, 14001), 2, 28001, 2},
		{castOf(0, 14000, 1, 14001), 3, 42002, 3}, {castOf(0, 14000, 1, 14001), 20000, 280019999, 20000},
		// A layer that begins at the depth does not count.
		{castOf(0, 16000, 20000, 14000), 20000, 16000, 1}, {castOf(0, 16000, 19999, 14000), 20000, 159999, 10},
		{castOf(0, 15000, 700, 15000), 1400, 15000, 1}, {castOf(0, 15000, 10, 14000, 20, 16000), 30, 15000, 1}, {castOf(0, 15000, 10, 14000, 20, 16000), 25, 14800, 1},
	} {
		if num, den, ok := impl.MeanSpeed(c.cast, c.depth); !ok || num != c.num || den != c.den {
			t.Error(c, num, den, ok)
		}
	}
	for _, c := range goodCasts() {
		for _, depth := range reachesOf(c) {
			num, den, ok := impl.MeanSpeed(c, depth)
			if depth == 0 {
				if ok || num != 0 || den != 0 {
					t.Error("no depth", c, num, den, ok)
				}
				continue
			}
			if !ok || !isExactly(num, den, plainMean(c, depth)) {
				t.Error(c, depth, num, den, ok)
			}
		}
	}
}

func TestP7CastAt(t *testing.T) {
	list := manyCasts(3)
	for _, c := range []struct {
		list       []impl.Cast
		time, want int
	}{
		{nil, 0, 0}, {nil, 100, 0}, {nil, 10000, 0},
		{list, 0, 0}, {list, 99, 0}, {list, 100, 50}, {list, 101, 50}, {list, 159, 50}, {list, 160, 47}, {list, 161, 47},
		{list, 219, 47}, {list, 220, 44}, {list, 221, 44}, {list, 10000, 44},
		{manyCasts(1), 99, 0}, {manyCasts(1), 100, 50}, {manyCasts(1), 10000, 50}, {manyCasts(6), 399, 38}, {manyCasts(6), 400, 35},
		{[]impl.Cast{castWith(func(c *impl.Cast) { c.Time = 0 })}, 0, 7}, {[]impl.Cast{castWith(func(c *impl.Cast) { c.Time = 0 })}, 10000, 7},
		{[]impl.Cast{castWith(func(c *impl.Cast) { c.Time = 10000 })}, 10000, 7}, {[]impl.Cast{castWith(func(c *impl.Cast) { c.Time = 10000 })}, 9999, 0},
	} {
		if n, ok := impl.CastAt(c.list, c.time); ok != (c.want > 0) || n != c.want {
			t.Error(c, n, ok)
		}
	}
	for count := range 7 {
		list := manyCasts(count)
		for time := range 500 {
			want := 0
			for _, c := range list {
				if c.Time <= time {
					want = c.Id
				}
			}
			if n, ok := impl.CastAt(list, time); ok != (want > 0) || n != want {
				t.Error(count, time, n, ok)
			}
		}
	}
}

func TestP7CastAtRefuses(t *testing.T) {
	for count := range 7 {
		for _, time := range []int{math.MinInt, -1, 10001, math.MaxInt} {
			if n, ok := impl.CastAt(manyCasts(count), time); ok || n != 0 {
				t.Error(count, time, n, ok)
			}
		}
	}
	for _, list := range wrongCastLists() {
		for _, time := range []int{0, 100, 160, 10000} {
			if n, ok := impl.CastAt(list, time); ok || n != 0 {
				t.Error(list, time, n, ok)
			}
		}
	}
}

// castsAt makes Casts of a Time and the two numbers of a Spot each; their Ids are 11, 12 and so on.
func castsAt(numbers ...int) []impl.Cast {
	list := []impl.Cast{}
	for i := 0; i+2 < len(numbers); i += 3 {
		at := impl.Spot{X: numbers[i+1], Y: numbers[i+2]}
		list = append(list, impl.Cast{Id: 11 + i/3, Time: numbers[i], At: at, Layers: layersOf(0, 15000)})
	}
	return list
}

func TestP7NearestCast(t *testing.T) {
	two := castsAt(100, 5, 5, 160, 90, 5)
	ties := castsAt(100, 10, 0, 160, 0, 10, 220, 20, 10, 280, 10, 20, 340, 10, 11)
	for _, c := range []struct {
		list         []impl.Cast
		at           impl.Spot
		time, within int
		want         int
	}{
		{two, impl.Spot{X: 80, Y: 5}, 150, 40, 12}, {two, impl.Spot{X: 80, Y: 5}, 100, 40, 11}, {two, impl.Spot{X: 40, Y: 5}, 150, 50, 11},
		// Just within, and one more, before the time and behind it.
		{castsAt(100, 5, 5), impl.Spot{}, 140, 40, 11}, {castsAt(100, 5, 5), impl.Spot{}, 141, 40, 0}, {castsAt(100, 5, 5), impl.Spot{}, 140, 39, 0},
		{castsAt(100, 5, 5), impl.Spot{}, 60, 40, 11}, {castsAt(100, 5, 5), impl.Spot{}, 59, 40, 0}, {castsAt(100, 5, 5), impl.Spot{}, 60, 39, 0},
		{castsAt(100, 5, 5), impl.Spot{}, 100, 0, 11}, {castsAt(100, 5, 5), impl.Spot{}, 101, 0, 0}, {castsAt(100, 5, 5), impl.Spot{}, 99, 0, 0},
		{castsAt(10000, 5, 5), impl.Spot{}, 0, 10000, 11}, {castsAt(10000, 5, 5), impl.Spot{}, 0, 9999, 0}, {castsAt(0, 5, 5), impl.Spot{}, 10000, 10000, 11},
		{castsAt(0, 5, 5), impl.Spot{}, 10000, 9999, 0}, {castsAt(0, 5, 5), impl.Spot{}, 0, 0, 11},
		// Equally near: the first one of those in time.
		{ties, impl.Spot{X: 10, Y: 10}, 220, 60, 12}, {ties, impl.Spot{X: 10, Y: 10}, 220, 59, 13}, {ties, impl.Spot{X: 10, Y: 10}, 190, 90, 11},
		{ties, impl.Spot{X: 10, Y: 10}, 250, 30, 13}, {ties, impl.Spot{X: 10, Y: 10}, 220, 119, 12}, {ties, impl.Spot{X: 10, Y: 10}, 220, 120, 15},
		{castsAt(100, 5, 5, 101, 5, 5, 102, 5, 5), impl.Spot{X: 5, Y: 5}, 101, 1, 11}, {castsAt(100, 5, 5, 101, 5, 5, 102, 5, 5), impl.Spot{X: 5, Y: 5}, 102, 1, 12},
		// It is the square that counts, and not the sum of both axes or the time.
		{castsAt(100, 7, 7, 101, 10, 0), impl.Spot{}, 101, 5, 11}, {castsAt(100, 7, 8, 101, 10, 0), impl.Spot{}, 100, 5, 12}, {castsAt(100, 1000, 1000, 101, 1000, 999), impl.Spot{}, 100, 5, 12},
		{nil, impl.Spot{}, 0, 10000, 0}, {nil, impl.Spot{X: 5, Y: 5}, 100, 0, 0},
	} {
		if n, ok := impl.NearestCast(c.list, c.at, c.time, c.within); ok != (c.want > 0) || n != c.want {
			t.Error(c, n, ok)
		}
	}
}

// plainNearest is, by the document's words, the Id of the nearest Cast, or 0.
func plainNearest(list []impl.Cast, at impl.Spot, time, within int) int {
	near := slices.DeleteFunc(slices.Clone(list), func(c impl.Cast) bool { return c.Time-time > within || time-c.Time > within })
	slices.SortStableFunc(near, func(a, b impl.Cast) int {
		first, _ := impl.SquareBetween(a.At, at)
		second, _ := impl.SquareBetween(b.At, at)
		return first - second
	})
	if len(near) == 0 {
		return 0
	}
	return near[0].Id
}

func TestP7NearestCastOfAll(t *testing.T) {
	lists := [][]impl.Cast{castsAt(100, 10, 0, 160, 0, 10, 220, 20, 10, 280, 10, 20, 340, 10, 11)}
	for count := range 7 {
		lists = append(lists, manyCasts(count))
	}
	for _, list := range lists {
		for _, at := range []impl.Spot{{}, {X: 10, Y: 10}, {X: 45, Y: 7}, {X: 500, Y: 9}, {X: 1000, Y: 1000}, {Y: 1000}, {X: 225, Y: 0}} {
			for time := 30; time <= 480; time += 10 {
				for _, within := range []int{0, 9, 10, 59, 60, 61, 120, 10000} {
					want := plainNearest(list, at, time, within)
					if n, ok := impl.NearestCast(list, at, time, within); ok != (want > 0) || n != want {
						t.Error(list, at, time, within, n, ok, want)
					}
				}
			}
		}
	}
}

func TestP7NearestCastRefuses(t *testing.T) {
	check := func(list []impl.Cast, at impl.Spot, time, within int) {
		if n, ok := impl.NearestCast(list, at, time, within); ok || n != 0 {
			t.Error(list, at, time, within, n, ok)
		}
	}
	for count := range 7 {
		list := manyCasts(count)
		for _, p := range wrongPlaces {
			check(list, p, 100, 10000)
		}
		for _, n := range []int{math.MinInt, -1, 10001, math.MaxInt} {
			check(list, impl.Spot{X: 5, Y: 5}, n, 10000)
			check(list, impl.Spot{X: 5, Y: 5}, 100, n)
			check(list, impl.Spot{X: 5, Y: 5}, n, n)
		}
	}
	for _, list := range wrongCastLists() {
		check(list, impl.Spot{X: 5, Y: 5}, 100, 10000)
		check(list, impl.Spot{X: 5, Y: 5}, 100, 0)
	}
}

func TestP7SameLayers(t *testing.T) {
	two := castOf(0, 15000, 1500, 14800)
	for _, c := range []struct {
		a, b   impl.Cast
		within int
		want   bool
	}{
		{two, castOf(0, 15000, 700, 15000), 200, true}, {two, castOf(0, 15000, 700, 15000), 199, false},
		{two, two, 0, true}, {two, castOf(0, 15000, 1500, 14801), 0, false}, {two, castOf(0, 15000, 1500, 14801), 1, true},
		{castOf(0, 14000), castOf(0, 16000), 2000, true}, {castOf(0, 14000), castOf(0, 16000), 1999, false}, {castOf(0, 15000), castOf(0, 15001), 0, false},
		// Below the last layer of one Cast.
		{castOf(0, 15000), castOf(0, 15000, 19000, 15300), 300, true}, {castOf(0, 15000), castOf(0, 15000, 19000, 15300), 299, false},
		{castOf(0, 15000), castOf(0, 15000, 20000, 15300), 300, true}, {castOf(0, 15000), castOf(0, 15000, 20000, 15300), 299, false},
		{castOf(0, 15000, 20000, 14700), castOf(0, 15000, 20000, 15000), 299, false}, {castOf(0, 15000, 20000, 14700), castOf(0, 15000, 20000, 15000), 300, true},
		// A single centimeter counts, at the surface and between layers of both.
		{castOf(0, 15000, 1, 15500), castOf(0, 15500), 499, false}, {castOf(0, 15000, 1, 15500), castOf(0, 15500), 500, true},
		{castOf(0, 15000, 10, 15500), castOf(0, 15000, 11, 15500), 499, false}, {castOf(0, 15000, 10, 15500), castOf(0, 15000, 11, 15500), 500, true},
		{castOf(0, 15000, 10, 15500), castOf(0, 15000, 10, 15500), 0, true},
		// Other layers with the same Speeds are the same.
		{castOf(0, 15000), castOf(0, 15000, 10, 15000, 20, 15000), 0, true}, {castOf(0, 15000, 20, 15100), castOf(0, 15000, 10, 15000, 20, 15100, 30, 15100), 0, true},
		{castOf(0, 15000, 10, 15100, 20, 15200), castOf(0, 15100, 10, 15200, 20, 15100), 100, true}, {castOf(0, 15000, 10, 15100, 20, 15200), castOf(0, 15100, 10, 15200, 20, 15100), 99, false},
	} {
		if same, ok := impl.SameLayers(c.a, c.b, c.within); !ok || same != c.want {
			t.Error(c, same, ok)
		}
		if same, ok := impl.SameLayers(c.b, c.a, c.within); !ok || same != c.want {
			t.Error("the other way", c, same, ok)
		}
	}
}

func TestP7SameLayersAtEachDepth(t *testing.T) {
	// The greatest difference at all depths is just tolerated, and one less is not.
	casts := goodCasts()
	for _, a := range casts {
		for _, b := range casts {
			greatest := 0
			for depth := range 20001 {
				if depth > 1500 && depth < 19900 && depth%100 != 0 {
					continue
				}
				greatest = max(greatest, plainSpeed(a, depth)-plainSpeed(b, depth), plainSpeed(b, depth)-plainSpeed(a, depth))
			}
			for _, within := range []int{0, 1, greatest - 1, greatest, greatest + 1, 1000, 1999, 2000} {
				if within < 0 || within > 2000 {
					continue
				}
				if same, ok := impl.SameLayers(a, b, within); !ok || same != (greatest <= within) {
					t.Error(a, b, within, same, ok)
				}
			}
		}
	}
}

func TestP7SameLayersRefuses(t *testing.T) {
	check := func(a, b impl.Cast, within int) {
		if same, ok := impl.SameLayers(a, b, within); ok || same {
			t.Error(a, b, within, same, ok)
		}
	}
	for _, c := range goodCasts() {
		for _, within := range []int{math.MinInt, -2000, -1, 2001, math.MaxInt} {
			check(c, c, within)
		}
	}
	two := castOf(0, 15000, 1500, 14800)
	for _, c := range wrongCasts() {
		check(two, c, 2000)
		check(c, two, 2000)
		check(c, c, 0)
	}
}

func TestP7ThinCast(t *testing.T) {
	for _, c := range []struct {
		layers, want []impl.Layer
	}{
		{layersOf(0, 15000), layersOf(0, 15000)}, {layersOf(0, 15000, 700, 15000), layersOf(0, 15000)}, {layersOf(0, 15000, 700, 15001), layersOf(0, 15000, 700, 15001)},
		// Two and more in a row, in the middle and at the end.
		{layersOf(0, 15000, 1, 15000, 2, 15000, 3, 14000), layersOf(0, 15000, 3, 14000)}, {layersOf(0, 14000, 1, 15000, 2, 15000, 3, 15000), layersOf(0, 14000, 1, 15000)},
		{layersOf(0, 14000, 1, 15000, 2, 15000, 3, 15000, 4, 15500, 5, 15500), layersOf(0, 14000, 1, 15000, 4, 15500)},
		{layersOf(0, 15000, 1, 15000, 2, 15000, 3, 15000, 4, 15000, 5, 15000, 6, 15000, 20000, 15000), layersOf(0, 15000)},
		{layersOf(0, 15000, 1, 15100, 2, 15200, 3, 15300, 4, 15400, 5, 15500, 6, 15600, 20000, 15600), layersOf(0, 15000, 1, 15100, 2, 15200, 3, 15300, 4, 15400, 5, 15500, 6, 15600)},
		// A Speed that comes back is not that of the layer just above.
		{layersOf(0, 15000, 1, 14000, 2, 15000, 3, 14000), layersOf(0, 15000, 1, 14000, 2, 15000, 3, 14000)},
		{layersOf(0, 15000, 1, 14000, 2, 14000, 3, 15000, 4, 15000), layersOf(0, 15000, 1, 14000, 3, 15000)},
	} {
		cast := castWith(func(cast *impl.Cast) { cast.Layers = c.layers })
		want := castWith(func(cast *impl.Cast) { cast.Layers = c.want })
		if thin, ok := impl.ThinCast(cast); !ok || !sameCast(thin, want) {
			t.Error(c, thin, ok)
		}
	}
	for _, c := range wrongCasts() {
		if thin, ok := impl.ThinCast(c); ok || !isNoCast(thin) {
			t.Error(c, thin, ok)
		}
	}
}

func TestP7AThinCastHasTheSameSpeeds(t *testing.T) {
	for _, c := range goodCasts() {
		thin, ok := impl.ThinCast(c)
		if !ok || !impl.IsCast(thin) || thin.Id != c.Id || thin.Time != c.Time || thin.At != c.At {
			t.Fatal(c, thin, ok)
		}
		for i := 1; i < len(thin.Layers); i++ {
			if thin.Layers[i].Speed == thin.Layers[i-1].Speed {
				t.Error("not thin", c, thin)
			}
		}
		if same, ok := impl.SameLayers(c, thin, 0); !ok || !same {
			t.Error("other speeds", c, thin)
		}
		for _, depth := range reachesOf(c) {
			if plainSpeed(c, depth) != plainSpeed(thin, depth) {
				t.Error("other speed", c, thin, depth)
			}
		}
		if again, ok := impl.ThinCast(thin); !ok || !sameCast(again, thin) {
			t.Error("thin twice", thin, again)
		}
	}
}

func TestP29CastFunctionsLeaveTheirArguments(t *testing.T) {
	// What lies behind the length of the layers is neither read nor written.
	whole := append(layersOf(0, 15000, 10, 15000, 20, 15100), layersOf(-5, 7, 3, 1, 30, 15100)...)
	before := slices.Clone(whole)
	for size := range len(whole) + 1 {
		c := castWith(func(c *impl.Cast) { c.Layers = whole[:size] })
		valid := 1 <= size && size <= 3
		if impl.IsCast(c) != valid || impl.AreCasts([]impl.Cast{c}) != valid {
			t.Error("IsCast", size)
		}
		if n, ok := impl.SpeedAt(c, 20000); ok != valid || valid && n != before[size-1].Speed {
			t.Error("SpeedAt", size, n)
		}
		if n, ok := impl.TravelTo(c, 9); ok != valid || valid && n != 60 {
			t.Error("TravelTo", size, n)
		}
		if n, ok := impl.DepthFor(c, 60); ok != valid || valid && n != 9 {
			t.Error("DepthFor", size, n)
		}
		if num, den, ok := impl.MeanSpeed(c, 20); ok != valid || valid && (num != 15000 || den != 1) {
			t.Error("MeanSpeed", size, num, den)
		}
		if n, ok := impl.CastAt([]impl.Cast{c}, 100); ok != valid || valid && n != 7 {
			t.Error("CastAt", size, n)
		}
		if n, ok := impl.NearestCast([]impl.Cast{c}, impl.Spot{}, 100, 0); ok != valid || valid && n != 7 {
			t.Error("NearestCast", size, n)
		}
		if same, ok := impl.SameLayers(c, castOf(0, 15000), 0); ok != valid || same != (size == 1 || size == 2) {
			t.Error("SameLayers", size, same)
		}
		if thin, ok := impl.ThinCast(c); ok != valid || valid && len(thin.Layers) != (size+1)/2 {
			t.Error("ThinCast", size, thin)
		}
	}
	if !slices.Equal(whole, before) {
		t.Error("the layers are now", whole)
	}
}

func TestP29CastListsStayAsTheyWere(t *testing.T) {
	whole := append(manyCasts(4), impl.Cast{}, castOf(5, 7), castOf(0, 15000))
	before := ownCasts(whole)
	for size := range len(whole) + 1 {
		list := whole[:size]
		valid := size <= 4
		if impl.AreCasts(list) != valid {
			t.Error("AreCasts", size)
		}
		want := []int{0, 50, 47, 44, 41, 0, 0, 0}[size]
		if n, ok := impl.CastAt(list, 10000); ok != (want > 0) || n != want {
			t.Error("CastAt", size, n)
		}
		if n, ok := impl.NearestCast(list, impl.Spot{X: 1000, Y: 1000}, 0, 10000); ok != (want > 0) || n != want {
			t.Error("NearestCast", size, n)
		}
	}
	if !slices.EqualFunc(whole, before, sameCast) {
		t.Error("the casts are now", whole)
	}
}

func TestP29CastResultsShareNothing(t *testing.T) {
	for _, layers := range [][]impl.Layer{layersOf(0, 15000, 10, 15100, 20, 15200), layersOf(0, 15000, 10, 15000, 20, 15200), layersOf(0, 15000, 10, 15100, 20, 15100), layersOf(0, 15000)} {
		// The layers have room behind their length, in which no result may lie.
		room := make([]impl.Layer, len(layers), 10)
		copy(room, layers)
		c := castWith(func(c *impl.Cast) { c.Layers = room })
		thin, _ := impl.ThinCast(c)
		other, _ := impl.ThinCast(c)
		want := ownCast(other)
		if !sameCast(thin, want) || len(thin.Layers) == 0 {
			t.Fatal("not thin", thin, other)
		}
		for i := range thin.Layers {
			thin.Layers[i] = impl.Layer{Depth: -7, Speed: -7}
		}
		_ = append(thin.Layers, impl.Layer{Depth: -8})
		if !sameCast(other, want) {
			t.Error("the other result is now", other)
		}
		if !slices.Equal(room[:10], append(slices.Clone(layers), make([]impl.Layer, 10-len(layers))...)) {
			t.Error("the layers are now", room[:10])
		}
	}
}

func TestP29CastFunctionsReturnForAllArguments(t *testing.T) {
	numbers := []int{math.MinInt, -1, 0, 1, 99, 100, 1500, 2000, 2001, 10000, 14000, 15000, 16000, 20000, 20001, 1000000, 1000001, math.MaxInt}
	for _, a := range numbers {
		for _, b := range numbers {
			checkCasts(t, nil, a, b)
			checkCasts(t, manyCasts(6), a, b)
			checkCasts(t, manyCasts(7), a, b)
			checkCasts(t, []impl.Cast{castOf(a, b)}, a, b)
			checkCasts(t, []impl.Cast{castOf(0, 15000, a, b)}, b, a)
			checkCasts(t, []impl.Cast{castOf(0, a, b, 15000)}, 100, b)
			checkCasts(t, []impl.Cast{castWith(func(c *impl.Cast) { c.Id, c.Time = a, b })}, a, b)
			checkCasts(t, []impl.Cast{castWith(func(c *impl.Cast) { c.At = impl.Spot{X: a, Y: b} }), castWith(func(c *impl.Cast) { c.Id, c.Time = 8, a })}, b, a)
		}
	}
}

// checkCasts tells whether the functions of a list return something only if they succeed.
func checkCasts(t *testing.T, list []impl.Cast, a, b int) {
	t.Helper()
	valid := impl.AreCasts(list)
	check := func(name string, n int, isValid, ok bool) {
		t.Helper()
		if ok && (!isValid || n < 0) || !ok && n != 0 {
			t.Error(name, list, a, b, n, ok)
		}
	}
	n, ok := impl.CastAt(list, a)
	check("cast", n, valid, ok)
	n, ok = impl.NearestCast(list, impl.Spot{X: b, Y: 5}, a, b)
	check("nearest", n, valid, ok)
	for _, c := range list {
		isCast := impl.IsCast(c)
		n, ok = impl.SpeedAt(c, a)
		check("speed", n, isCast, ok)
		n, ok = impl.TravelTo(c, a)
		check("travel", n, isCast, ok)
		n, ok = impl.DepthFor(c, a)
		check("depth", n, isCast, ok)
		num, den, ok := impl.MeanSpeed(c, a)
		check("mean", num, isCast, ok)
		check("of", den, isCast, ok)
		if same, ok := impl.SameLayers(c, list[0], a); ok != (isCast && impl.IsCast(list[0]) && 0 <= a && a <= 2000) || !ok && same {
			t.Error("same", c, list[0], a, same, ok)
		}
		if thin, ok := impl.ThinCast(c); ok != isCast || ok && !impl.IsCast(thin) || !ok && !isNoCast(thin) {
			t.Error("thin", c, thin, ok)
		}
	}
}
