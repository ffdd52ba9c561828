package jitter

import (
	"math"
	"slices"
	"testing"

	"callboy/api"
	"callboy/hash"
)

// usual is the usual conf, written out.
var usual = Conf{[4]int{1, 5, 20, 60}, [4]int{4, 20, 60, 240}}

// bounds are ends at the ends of what may be, and about them.
var bounds = []int{math.MinInt, -1, 0, 1, 10000, 10001, math.MaxInt}

// levels are numbers that are levels, and numbers about them.
var levels = []int{math.MinInt, -1 << 32, -1, 0, 1, 2, 3, 4, 5, 1 << 32, math.MaxInt}

// noLevels are those of them that are none.
var noLevels = []int{math.MinInt, -1 << 32, -1, 4, 5, 1 << 32, math.MaxInt}

// counts are how many hints may be asked for.
var counts = []int{math.MinInt, -200, -1, 0, 1, 2, 3, 17, 199, 200, 201, 400, 1 << 32, math.MaxInt}

// seeds are seeds to draw from.
var seeds = []uint64{0, 1, 17, 1<<63 - 1, 1 << 63, 0x9e3779b97f4a7c15, math.MaxUint64 - 1, math.MaxUint64}

// fine are confs that Check does not refuse: the usual one, ones of one hint alone, ones of all that may be, and such as have both.
var fine = []Conf{
	usual,
	{[4]int{1, 1, 1, 1}, [4]int{1, 1, 1, 1}},
	{[4]int{10000, 10000, 10000, 10000}, [4]int{10000, 10000, 10000, 10000}},
	{[4]int{1, 1, 1, 1}, [4]int{10000, 10000, 10000, 10000}},
	{[4]int{1, 1, 1, 10000}, [4]int{1, 2, 10000, 10000}},
	{[4]int{3, 7, 7, 9}, [4]int{3, 7, 8, 12}},
	{[4]int{1, 2, 3, 4}, [4]int{4, 4, 4, 4}},
	{[4]int{4, 4, 4, 4}, [4]int{4, 5, 6, 7}},
	{[4]int{1, 100, 1000, 9999}, [4]int{2, 163, 1999, 10000}},
}

// refused are confs that Check refuses, one for each reason at each place.
var refused = []Conf{
	// Los that are below 1, and above 10000.
	{[4]int{0, 5, 20, 60}, [4]int{4, 20, 60, 240}},
	{[4]int{1, 0, 20, 60}, [4]int{4, 20, 60, 240}},
	{[4]int{1, 5, -1, 60}, [4]int{4, 20, 60, 240}},
	{[4]int{1, 5, 20, math.MinInt}, [4]int{4, 20, 60, 240}},
	{[4]int{10001, 5, 20, 60}, [4]int{4, 20, 60, 240}},
	{[4]int{1, 10001, 20, 60}, [4]int{4, 20, 60, 240}},
	{[4]int{1, 5, 10001, 60}, [4]int{4, 20, 60, 240}},
	{[4]int{1, 5, 20, math.MaxInt}, [4]int{4, 20, 60, 240}},
	// His that are so.
	{[4]int{1, 5, 20, 60}, [4]int{0, 20, 60, 240}},
	{[4]int{1, 5, 20, 60}, [4]int{4, 0, 60, 240}},
	{[4]int{1, 5, 20, 60}, [4]int{4, 20, -1, 240}},
	{[4]int{1, 5, 20, 60}, [4]int{4, 20, 60, math.MinInt}},
	{[4]int{1, 5, 20, 60}, [4]int{10001, 20, 60, 240}},
	{[4]int{1, 5, 20, 60}, [4]int{4, 10001, 60, 240}},
	{[4]int{1, 5, 20, 60}, [4]int{4, 20, 10001, 240}},
	{[4]int{1, 5, 20, 60}, [4]int{4, 20, 60, 10001}},
	{[4]int{1, 5, 20, 60}, [4]int{4, 20, 60, math.MaxInt}},
	// A Lo that is above its Hi.
	{[4]int{5, 5, 20, 60}, [4]int{4, 20, 60, 240}},
	{[4]int{1, 20, 20, 60}, [4]int{4, 19, 60, 240}},
	{[4]int{1, 5, 60, 60}, [4]int{4, 20, 59, 240}},
	{[4]int{1, 5, 20, 241}, [4]int{4, 20, 60, 240}},
	// Los that fall.
	{[4]int{2, 1, 20, 60}, [4]int{4, 20, 60, 240}},
	{[4]int{1, 5, 4, 60}, [4]int{4, 20, 60, 240}},
	{[4]int{1, 5, 20, 19}, [4]int{4, 20, 60, 240}},
	// His that fall.
	{[4]int{1, 2, 3, 4}, [4]int{5, 4, 60, 240}},
	{[4]int{1, 2, 3, 4}, [4]int{4, 20, 19, 240}},
	{[4]int{1, 2, 3, 4}, [4]int{4, 20, 60, 59}},
}

// What the calls should tell, in the test's own words.

func checked(c Conf) api.Errno {
	all := append(c.Lo[:], c.Hi[:]...)
	if slices.Min(all) < 1 || 10000 < slices.Max(all) {
		return api.ErrRange
	}
	for i, lo := range c.Lo {
		if c.Hi[i] < lo || slices.Max(c.Lo[:i+1]) != lo || slices.Max(c.Hi[:i+1]) != c.Hi[i] {
			return api.ErrOrder
		}
	}
	return api.OK
}

// hintsOf tells all hints of a level, one by one: none, if it is no level, or the conf is refused.
func hintsOf(c Conf, level int) []int {
	if checked(c) != api.OK || level < 0 || 3 < level {
		return nil
	}
	var l []int
	for n := c.Lo[level]; n != c.Hi[level]; n++ {
		l = append(l, n)
	}
	return append(l, c.Hi[level])
}

// hinted tells what Hint should, of all hints of a level.
func hinted(all []int, draw uint64) int {
	if len(all) == 0 {
		return 0
	}
	return all[draw%uint64(len(all))]
}

// listed tells what Hints should, of all hints of a level.
func listed(all []int, seed uint64, n int) []int {
	var l []int
	for len(l) < n && len(l) < 200 {
		var drawn uint64
		seed, drawn = hash.Draw(seed)
		l = append(l, hinted(all, drawn))
	}
	return l
}

// spreadOf tells what Spread should, of all hints of a level.
func spreadOf(all, l []int) []int {
	of := map[int]int{}
	for _, n := range l {
		of[n]++
	}
	var told []int
	for _, n := range all {
		told = append(told, of[n])
	}
	return told
}

// draw tells a number below another one, by the seed.
func draw(seed *uint64, below int) int {
	*seed = *seed*6364136223846793005 + 1442695040888963407
	return int(*seed >> 33 % uint64(below))
}

// anyDraw tells any draw, by the seed.
func anyDraw(seed *uint64) uint64 {
	return uint64(draw(seed, 1<<31))<<33 ^ uint64(draw(seed, 1<<31))<<7 ^ uint64(draw(seed, 1<<31))
}

// anyConf tells a conf that Check does not refuse.
func anyConf(seed *uint64) Conf {
	var c Conf
	most := []int{3, 10, 60, 300, 10000}[draw(seed, 5)]
	for i := range c.Hi {
		c.Hi[i] = draw(seed, most) + 1
		c.Lo[i] = draw(seed, c.Hi[i]) + 1
	}
	// Both sorted, each Lo is still at most its Hi.
	slices.Sort(c.Lo[:])
	slices.Sort(c.Hi[:])
	return c
}

// drawsOf are draws at the ends of what may be, and about what a width divides.
func drawsOf(width int) []uint64 {
	w := uint64(width)
	return []uint64{0, 1, 2, 17, w - 1, w, w + 1, 2*w - 1, 2 * w, 1000*w - 1, 1000 * w, 1<<31 - 1, 1 << 31, 1<<32 - 1, 1 << 32, 1<<63 - 1, 1 << 63, 1<<63 + 1, math.MaxUint64 - w, math.MaxUint64 - 1, math.MaxUint64}
}

// about are numbers about a conf's ends, and at the ends of what a number may be.
func about(c Conf) []int {
	l := append([]int{-1, 0, 1, 2, 9999, 20000, math.MinInt + 1, math.MaxInt - 1, 1 << 32}, bounds...)
	for i := range c.Lo {
		for _, end := range []int{c.Lo[i], c.Hi[i]} {
			if end > -20000 && end < 20000 {
				l = append(l, end-1, end, end+1, (c.Lo[i]+c.Hi[i])/2, -end, end+1<<32)
			}
		}
	}
	return l
}

// The calls, held against what they should tell.

func checks(t *testing.T, c Conf) {
	t.Helper()
	if e, want := Check(c), checked(c); e != want {
		t.Errorf("Check(%v) = %d, not %d", c, int(e), int(want))
	}
}

func lists(t *testing.T, c Conf, level int, all []int, seed uint64, n int) []int {
	t.Helper()
	got, want := Hints(c, level, seed, n), listed(all, seed, n)
	if !slices.Equal(got, want) {
		t.Errorf("Hints(%v, %d, %d, %d) = %v, not %v", c, level, seed, n, got, want)
	}
	return got
}

func spreads(t *testing.T, c Conf, level int, all, l []int) []int {
	t.Helper()
	given := slices.Clone(l)
	got, want := Spread(c, level, given), spreadOf(all, l)
	if !slices.Equal(got, want) {
		t.Errorf("Spread(%v, %d, %v) = %v, not %v", c, level, l, got, want)
	}
	if !slices.Equal(given, l) {
		t.Errorf("Spread(%v, %d, %v) has written %v", c, level, l, given)
	}
	return got
}

// asked holds all calls of a level.
func asked(t *testing.T, c Conf, level int) {
	t.Helper()
	all := hintsOf(c, level)
	if n := Width(c, level); n != len(all) {
		t.Errorf("Width(%v, %d) = %d, not %d", c, level, n, len(all))
	}
	for _, draw := range drawsOf(len(all)) {
		if n, want := Hint(c, level, draw), hinted(all, draw); n != want {
			t.Errorf("Hint(%v, %d, %d) = %d, not %d", c, level, draw, n, want)
		}
	}
	for _, n := range about(c) {
		if ok, want := Within(c, level, n), slices.Contains(all, n); ok != want {
			t.Errorf("Within(%v, %d, %d) = %v", c, level, n, ok)
		}
	}
	for _, seed := range seeds {
		lists(t, c, level, all, seed, 5)
	}
	spreads(t, c, level, all, about(c))
}

// P17.1

// All that the ends can be, at the ends of what may be.
func TestCheckBounds(t *testing.T) {
	eachConf(bounds, func(c Conf) { checks(t, c) })
}

// All that four ends of a few numbers can be.
func TestCheckOrder(t *testing.T) {
	eachConf([]int{1, 2, 3, 4}, func(c Conf) { checks(t, c) })
	eachConf([]int{0, 1, 2}, func(c Conf) { checks(t, c) })
	eachConf([]int{9999, 10000, 10001}, func(c Conf) { checks(t, c) })
}

// eachConf calls with all confs of some ends.
func eachConf(of []int, call func(c Conf)) {
	ways := 1
	for range 8 {
		ways *= len(of)
	}
	for way := range ways {
		var c Conf
		for i := range c.Lo {
			c.Lo[i], way = of[way%len(of)], way/len(of)
			c.Hi[i], way = of[way%len(of)], way/len(of)
		}
		call(c)
	}
}

// Each end alone, over all that it may be and beyond.
func TestCheckEachEnd(t *testing.T) {
	for i := range 4 {
		for n := -3; n < 10004; n++ {
			c := usual
			c.Lo[i] = n
			checks(t, c)
			c.Hi[i] = n
			checks(t, c)
			c.Lo[i] = usual.Lo[i]
			checks(t, c)
		}
	}
}

func TestCheckEdges(t *testing.T) {
	least, most := math.MinInt, math.MaxInt
	for _, x := range []struct {
		lo, hi [4]int
		want   api.Errno
	}{
		{[4]int{1, 5, 20, 60}, [4]int{4, 20, 60, 240}, api.OK},
		{[4]int{}, [4]int{}, api.ErrRange},
		// Each Lo at its ends.
		{[4]int{0, 5, 20, 60}, [4]int{4, 20, 60, 240}, api.ErrRange},
		{[4]int{-1, 5, 20, 60}, [4]int{4, 20, 60, 240}, api.ErrRange},
		{[4]int{least, 5, 20, 60}, [4]int{4, 20, 60, 240}, api.ErrRange},
		{[4]int{1, 1, 20, 60}, [4]int{4, 20, 60, 240}, api.OK},
		{[4]int{1, 0, 20, 60}, [4]int{4, 20, 60, 240}, api.ErrRange},
		{[4]int{1, -1, 20, 60}, [4]int{4, 20, 60, 240}, api.ErrRange},
		{[4]int{1, least, 20, 60}, [4]int{4, 20, 60, 240}, api.ErrRange},
		{[4]int{1, 1, 1, 60}, [4]int{4, 20, 60, 240}, api.OK},
		{[4]int{1, 1, 0, 60}, [4]int{4, 20, 60, 240}, api.ErrRange},
		{[4]int{1, 1, -1, 60}, [4]int{4, 20, 60, 240}, api.ErrRange},
		{[4]int{1, 1, least, 60}, [4]int{4, 20, 60, 240}, api.ErrRange},
		{[4]int{1, 1, 1, 1}, [4]int{4, 20, 60, 240}, api.OK},
		{[4]int{1, 1, 1, 0}, [4]int{4, 20, 60, 240}, api.ErrRange},
		{[4]int{1, 1, 1, -1}, [4]int{4, 20, 60, 240}, api.ErrRange},
		{[4]int{1, 1, 1, least}, [4]int{4, 20, 60, 240}, api.ErrRange},
		{[4]int{10000, 10000, 10000, 10000}, [4]int{10000, 10000, 10000, 10000}, api.OK},
		{[4]int{10001, 10000, 10000, 10000}, [4]int{10000, 10000, 10000, 10000}, api.ErrRange},
		{[4]int{10000, 10001, 10000, 10000}, [4]int{10000, 10000, 10000, 10000}, api.ErrRange},
		{[4]int{10000, 10000, 10001, 10000}, [4]int{10000, 10000, 10000, 10000}, api.ErrRange},
		{[4]int{10000, 10000, 10000, 10001}, [4]int{10000, 10000, 10000, 10000}, api.ErrRange},
		{[4]int{10001, 10001, 10001, 10001}, [4]int{10001, 10001, 10001, 10001}, api.ErrRange},
		{[4]int{most, 5, 20, 60}, [4]int{4, 20, 60, 240}, api.ErrRange},
		{[4]int{1, most, 20, 60}, [4]int{4, 20, 60, 240}, api.ErrRange},
		{[4]int{1, 5, most, 60}, [4]int{4, 20, 60, 240}, api.ErrRange},
		{[4]int{1, 5, 20, most}, [4]int{4, 20, 60, 240}, api.ErrRange},
		// Each Hi at its ends.
		{[4]int{1, 1, 1, 1}, [4]int{1, 1, 1, 1}, api.OK},
		{[4]int{1, 1, 1, 1}, [4]int{0, 1, 1, 1}, api.ErrRange},
		{[4]int{1, 1, 1, 1}, [4]int{1, 0, 1, 1}, api.ErrRange},
		{[4]int{1, 1, 1, 1}, [4]int{1, 1, 0, 1}, api.ErrRange},
		{[4]int{1, 1, 1, 1}, [4]int{1, 1, 1, 0}, api.ErrRange},
		{[4]int{0, 0, 0, 0}, [4]int{0, 0, 0, 0}, api.ErrRange},
		{[4]int{1, 5, 20, 60}, [4]int{-1, 20, 60, 240}, api.ErrRange},
		{[4]int{1, 5, 20, 60}, [4]int{4, -1, 60, 240}, api.ErrRange},
		{[4]int{1, 5, 20, 60}, [4]int{4, 20, -1, 240}, api.ErrRange},
		{[4]int{1, 5, 20, 60}, [4]int{4, 20, 60, -1}, api.ErrRange},
		{[4]int{1, 5, 20, 60}, [4]int{least, 20, 60, 240}, api.ErrRange},
		{[4]int{1, 5, 20, 60}, [4]int{4, least, 60, 240}, api.ErrRange},
		{[4]int{1, 5, 20, 60}, [4]int{4, 20, least, 240}, api.ErrRange},
		{[4]int{1, 5, 20, 60}, [4]int{4, 20, 60, least}, api.ErrRange},
		{[4]int{1, 5, 20, 60}, [4]int{4, 20, 60, 10000}, api.OK},
		{[4]int{1, 5, 20, 60}, [4]int{4, 20, 60, 10001}, api.ErrRange},
		{[4]int{1, 5, 20, 60}, [4]int{4, 20, 60, most}, api.ErrRange},
		{[4]int{1, 5, 20, 60}, [4]int{4, 20, 10000, 10000}, api.OK},
		{[4]int{1, 5, 20, 60}, [4]int{4, 20, 10001, 10000}, api.ErrRange},
		{[4]int{1, 5, 20, 60}, [4]int{4, 20, most, 10000}, api.ErrRange},
		{[4]int{1, 5, 20, 60}, [4]int{4, 10000, 10000, 10000}, api.OK},
		{[4]int{1, 5, 20, 60}, [4]int{4, 10001, 10000, 10000}, api.ErrRange},
		{[4]int{1, 5, 20, 60}, [4]int{4, most, 10000, 10000}, api.ErrRange},
		{[4]int{1, 5, 20, 60}, [4]int{10000, 10000, 10000, 10000}, api.OK},
		{[4]int{1, 5, 20, 60}, [4]int{10001, 10000, 10000, 10000}, api.ErrRange},
		{[4]int{1, 5, 20, 60}, [4]int{most, 10000, 10000, 10000}, api.ErrRange},
		// The same ones, and ones that fall at the second place, at the third, and at the fourth.
		{[4]int{5, 5, 5, 5}, [4]int{9, 9, 9, 9}, api.OK},
		{[4]int{5, 4, 5, 5}, [4]int{9, 9, 9, 9}, api.ErrOrder},
		{[4]int{5, 5, 4, 5}, [4]int{9, 9, 9, 9}, api.ErrOrder},
		{[4]int{5, 5, 5, 4}, [4]int{9, 9, 9, 9}, api.ErrOrder},
		{[4]int{5, 5, 5, 5}, [4]int{9, 8, 9, 9}, api.ErrOrder},
		{[4]int{5, 5, 5, 5}, [4]int{9, 9, 8, 9}, api.ErrOrder},
		{[4]int{5, 5, 5, 5}, [4]int{9, 9, 9, 8}, api.ErrOrder},
		{[4]int{4, 3, 2, 1}, [4]int{9, 9, 9, 9}, api.ErrOrder},
		{[4]int{1, 1, 1, 1}, [4]int{9, 8, 7, 6}, api.ErrOrder},
		// A Lo that is its Hi, and one above it.
		{[4]int{4, 5, 20, 60}, [4]int{4, 20, 60, 240}, api.OK},
		{[4]int{5, 5, 20, 60}, [4]int{4, 20, 60, 240}, api.ErrOrder},
		{[4]int{1, 20, 20, 60}, [4]int{4, 20, 60, 240}, api.OK},
		{[4]int{1, 20, 20, 60}, [4]int{4, 19, 60, 240}, api.ErrOrder},
		{[4]int{1, 5, 60, 60}, [4]int{4, 20, 60, 240}, api.OK},
		{[4]int{1, 5, 60, 60}, [4]int{4, 20, 59, 240}, api.ErrOrder},
		{[4]int{1, 5, 20, 240}, [4]int{4, 20, 60, 240}, api.OK},
		{[4]int{1, 5, 20, 241}, [4]int{4, 20, 60, 240}, api.ErrOrder},
		// Out of range and out of order at once.
		{[4]int{5, 4, 20, 60}, [4]int{9, 20, 60, 10001}, api.ErrRange},
		{[4]int{5, 4, 20, 60}, [4]int{9, 20, 60, -1}, api.ErrRange},
		{[4]int{5, 5, 20, 0}, [4]int{4, 20, 60, 240}, api.ErrRange},
		{[4]int{5, 5, 20, 10001}, [4]int{4, 20, 60, 240}, api.ErrRange},
		{[4]int{10001, 5, 20, 60}, [4]int{4, 20, 60, 240}, api.ErrRange},
		{[4]int{1, 2, 3, 4}, [4]int{9, 8, 7, 0}, api.ErrRange},
		{[4]int{4, 3, 2, 1}, [4]int{0, 9, 9, 9}, api.ErrRange},
		{[4]int{4, 3, 2, 1}, [4]int{4, 3, 2, most}, api.ErrRange},
		{[4]int{4, 3, 2, least}, [4]int{4, 3, 2, 1}, api.ErrRange},
	} {
		if e := Check(Conf{x.lo, x.hi}); e != x.want {
			t.Errorf("Check(%v, %v) = %d, not %d", x.lo, x.hi, int(e), int(x.want))
		}
	}
}

func TestUsual(t *testing.T) {
	c := Usual()
	if c != usual {
		t.Errorf("Usual() = %v", c)
	}
	if e := Check(c); e != api.OK {
		t.Errorf("Check(Usual()) = %d", int(e))
	}
}

// P17.2

func TestEachCall(t *testing.T) {
	for _, c := range slices.Concat(fine, refused, []Conf{{}}) {
		checks(t, c)
		for _, level := range levels {
			asked(t, c, level)
		}
	}
}

// All confs of a few ends, of those that are refused, too.
func TestEachConf(t *testing.T) {
	eachConf([]int{0, 1, 2, 4}, func(c Conf) {
		for level := -1; level < 5; level++ {
			all := hintsOf(c, level)
			if n := Width(c, level); n != len(all) {
				t.Errorf("Width(%v, %d) = %d", c, level, n)
			}
			for n := range 6 {
				if ok := Within(c, level, n); ok != slices.Contains(all, n) {
					t.Errorf("Within(%v, %d, %d) = %v", c, level, n, ok)
				}
				if hint := Hint(c, level, uint64(n)); hint != hinted(all, uint64(n)) {
					t.Errorf("Hint(%v, %d, %d) = %d", c, level, n, hint)
				}
			}
		}
	})
}

func TestWidth(t *testing.T) {
	for _, x := range []struct {
		c           Conf
		level, want int
	}{
		{usual, math.MinInt, 0},
		{usual, -1, 0},
		{usual, 0, 4},
		{usual, 1, 16},
		{usual, 2, 41},
		{usual, 3, 181},
		{usual, 4, 0},
		{usual, math.MaxInt, 0},
		{fine[1], 0, 1},
		{fine[1], 3, 1},
		{fine[1], 4, 0},
		{fine[2], 0, 1},
		{fine[2], 3, 1},
		{fine[3], 0, 10000},
		{fine[3], 3, 10000},
		{fine[3], -1, 0},
		{fine[4], 0, 1},
		{fine[4], 1, 2},
		{fine[4], 2, 10000},
		{fine[4], 3, 1},
	} {
		if n := Width(x.c, x.level); n != x.want {
			t.Errorf("Width(%v, %d) = %d, not %d", x.c, x.level, n, x.want)
		}
	}
}

// The hints of the draws 0, 1, the width less one, the width, the width and one, 2^63, and 2^64 less one.
func TestHint(t *testing.T) {
	for _, x := range []struct {
		lo, hi int
		want   [7]int
	}{
		{1, 4, [7]int{1, 2, 4, 1, 2, 1, 4}},
		{5, 20, [7]int{5, 6, 20, 5, 6, 5, 20}},
		{20, 60, [7]int{20, 21, 60, 20, 21, 28, 35}},
		{60, 240, [7]int{60, 61, 240, 60, 61, 82, 103}},
		{1, 10000, [7]int{1, 2, 10000, 1, 2, 5809, 1616}},
		{7, 7, [7]int{7, 7, 7, 7, 7, 7, 7}},
		{1, 3, [7]int{1, 2, 3, 1, 2, 3, 1}},
		{9998, 10000, [7]int{9998, 9999, 10000, 9998, 9999, 10000, 9998}},
	} {
		width := uint64(x.hi - x.lo + 1)
		draws := [7]uint64{0, 1, width - 1, width, width + 1, 1 << 63, 1<<64 - 1}
		for level := range 4 {
			c := around(x.lo, x.hi, level)
			for i, draw := range draws {
				if n := Hint(c, level, draw); n != x.want[i] {
					t.Errorf("Hint(%v, %d, %d) = %d, not %d", c, level, draw, n, x.want[i])
				}
			}
		}
	}
}

// around tells a conf of which one level has those ends, and no other level has them, if that may be.
func around(lo, hi, level int) Conf {
	var c Conf
	for i := range c.Lo {
		switch {
		case i < level:
			c.Lo[i], c.Hi[i] = 1, max(lo, hi-1)
		case i > level:
			c.Lo[i], c.Hi[i] = min(lo+1, hi), 10000
		default:
			c.Lo[i], c.Hi[i] = lo, hi
		}
	}
	return c
}

func TestWithin(t *testing.T) {
	for level := range 4 {
		lo, hi := usual.Lo[level], usual.Hi[level]
		for _, x := range []struct {
			n    int
			want bool
		}{
			{math.MinInt, false}, {-1, false}, {0, false}, {lo - 1, false},
			{lo, true}, {lo + 1, true}, {hi - 1, true}, {hi, true},
			{hi + 1, false}, {10001, false}, {math.MaxInt, false},
		} {
			if ok := Within(usual, level, x.n); ok != x.want {
				t.Errorf("Within(%d, %d) = %v", level, x.n, ok)
			}
		}
	}
	for n := -300; n < 12000; n++ {
		for level := range 4 {
			if ok := Within(fine[3], level, n); ok != (n > 0 && n < 10001) {
				t.Errorf("Within(%v, %d, %d) = %v", fine[3], level, n, ok)
			}
		}
	}
}

// A level that is none, and a conf that is refused, have nothing: not even 0 is within.
func TestNothing(t *testing.T) {
	nothing := func(c Conf, level int) {
		if Width(c, level) != 0 {
			t.Errorf("Width(%v, %d) = %d", c, level, Width(c, level))
		}
		for _, draw := range drawsOf(3) {
			if n := Hint(c, level, draw); n != 0 {
				t.Errorf("Hint(%v, %d, %d) = %d", c, level, draw, n)
			}
		}
		for _, n := range about(c) {
			if Within(c, level, n) {
				t.Errorf("Within(%v, %d, %d)", c, level, n)
			}
		}
		for _, l := range [][]int{nil, {0}, {-1, 0, 1}, {1, 4, 5, 20, 60, 240}} {
			if told := Spread(c, level, l); len(told) != 0 {
				t.Errorf("Spread(%v, %d, %v) = %v", c, level, l, told)
			}
		}
		// There are as many Hints as elsewhere, and each is a Hint of it: 0.
		for _, n := range counts {
			l := Hints(c, level, 17, n)
			if len(l) != min(max(n, 0), 200) || slices.ContainsFunc(l, func(hint int) bool { return hint != 0 }) {
				t.Errorf("Hints(%v, %d, 17, %d) = %v", c, level, n, l)
			}
		}
	}
	for _, c := range refused {
		if checked(c) == api.OK {
			t.Errorf("%v is not refused", c)
		}
		for _, level := range levels {
			nothing(c, level)
		}
	}
	for _, c := range fine {
		if checked(c) != api.OK {
			t.Errorf("%v is refused", c)
		}
		for _, level := range noLevels {
			nothing(c, level)
		}
	}
}

// P17.3

// The first eight of some seeds, worked out apart from the program, and what 200 of them are together.
func TestHints(t *testing.T) {
	for _, x := range []struct {
		seed  uint64
		level int
		want  [8]int
		sum   int
	}{
		{0, 0, [8]int{4, 1, 4, 1, 4, 3, 2, 1}, 482},
		{0, 1, [8]int{20, 9, 20, 17, 16, 15, 6, 17}, 2430},
		{0, 2, [8]int{43, 49, 21, 59, 28, 39, 33, 51}, 7972},
		{0, 3, [8]int{148, 126, 204, 225, 185, 105, 172, 101}, 29062},
		{1, 0, [8]int{2, 4, 3, 4, 2, 1, 2, 2}, 506},
		{1, 3, [8]int{124, 201, 237, 190, 126, 167, 99, 231}, 30675},
		{17, 1, [8]int{8, 6, 17, 8, 19, 15, 9, 10}, 2485},
		{17, 2, [8]int{57, 30, 27, 39, 26, 51, 25, 58}, 7951},
		{1 << 63, 2, [8]int{46, 25, 57, 31, 46, 51, 31, 25}, 8009},
		{1 << 63, 3, [8]int{94, 224, 204, 133, 122, 62, 86, 202}, 29097},
		{math.MaxUint64, 0, [8]int{1, 2, 2, 3, 3, 4, 2, 1}, 524},
		{math.MaxUint64, 1, [8]int{5, 14, 14, 7, 19, 8, 10, 9}, 2380},
		{math.MaxUint64, 2, [8]int{43, 26, 34, 20, 32, 58, 46, 59}, 7890},
		{math.MaxUint64, 3, [8]int{170, 197, 123, 186, 204, 162, 227, 120}, 30228},
	} {
		l := Hints(usual, x.level, x.seed, 200)
		sum := 0
		for _, n := range l {
			sum += n
		}
		if len(l) != 200 || !slices.Equal(l[:8], x.want[:]) || sum != x.sum {
			t.Errorf("Hints(%d, %d, 200) = %v", x.level, x.seed, l)
		}
		if l := Hints(usual, x.level, x.seed, 8); !slices.Equal(l, x.want[:]) {
			t.Errorf("Hints(%d, %d, 8) = %v", x.level, x.seed, l)
		}
	}
}

func TestHowManyHints(t *testing.T) {
	for _, x := range []struct{ n, want int }{
		{math.MinInt, 0}, {-200, 0}, {-1, 0}, {0, 0}, {1, 1}, {2, 2}, {199, 199}, {200, 200}, {201, 200}, {1 << 32, 200}, {math.MaxInt, 200},
	} {
		for _, seed := range seeds {
			for _, level := range levels {
				if l := Hints(usual, level, seed, x.n); len(l) != x.want {
					t.Errorf("Hints(%d, %d, %d) has %d", level, seed, x.n, len(l))
				}
			}
		}
	}
}

// They are the Hints of the numbers that hash.Draw tells from the seed on, and a longer list begins with the shorter one.
func TestHintsAreHints(t *testing.T) {
	for _, c := range fine {
		for level := range 4 {
			all := hintsOf(c, level)
			for _, seed := range seeds {
				whole := Hints(c, level, seed, 200)
				next := seed
				for i, n := range whole {
					var drawn uint64
					next, drawn = hash.Draw(next)
					if n != Hint(c, level, drawn) {
						t.Errorf("Hints(%v, %d, %d, 200): the place %d is %d", c, level, seed, i, n)
					}
				}
				for _, n := range counts {
					l := lists(t, c, level, all, seed, n)
					if !slices.Equal(l, whole[:len(l)]) {
						t.Errorf("Hints(%v, %d, %d, %d) = %v, and 200 begin with %v", c, level, seed, n, l, whole[:len(l)])
					}
				}
			}
		}
	}
}

// What is drawn behind a seed is drawn of the next seed: a list goes on where a shorter one ended.
func TestHintsGoOn(t *testing.T) {
	for level := range 4 {
		for _, seed := range seeds {
			whole := Hints(usual, level, seed, 150)
			next := seed
			for i := range 50 {
				if l := Hints(usual, level, next, 100); !slices.Equal(l, whole[i:i+100]) {
					t.Errorf("Hints(%d, %d): %v, not %v", level, next, l, whole[i:i+100])
				}
				next, _ = hash.Draw(next)
			}
		}
	}
}

func TestSpread(t *testing.T) {
	one := Conf{[4]int{7, 7, 7, 7}, [4]int{7, 7, 7, 9}}
	for _, x := range []struct {
		c       Conf
		level   int
		l, want []int
	}{
		// No numbers, and one: below Lo, at it, between, at Hi, and above it.
		{usual, 0, nil, []int{0, 0, 0, 0}},
		{usual, 0, []int{}, []int{0, 0, 0, 0}},
		{usual, 0, []int{0}, []int{0, 0, 0, 0}},
		{usual, 0, []int{1}, []int{1, 0, 0, 0}},
		{usual, 0, []int{2}, []int{0, 1, 0, 0}},
		{usual, 0, []int{3}, []int{0, 0, 1, 0}},
		{usual, 0, []int{4}, []int{0, 0, 0, 1}},
		{usual, 0, []int{5}, []int{0, 0, 0, 0}},
		{usual, 0, []int{-1}, []int{0, 0, 0, 0}},
		{usual, 0, []int{math.MinInt}, []int{0, 0, 0, 0}},
		{usual, 0, []int{math.MaxInt}, []int{0, 0, 0, 0}},
		// Many.
		{usual, 0, []int{4, 1, 4, 1, 4, 3}, []int{2, 0, 1, 3}},
		{usual, 0, []int{4, 5, 4, 0, -4, math.MaxInt, 2, math.MinInt, 1<<32 + 1}, []int{0, 1, 0, 2}},
		{usual, 1, nil, make([]int, 16)},
		{usual, 1, []int{4, 5, 20, 20, 21, 6}, []int{1, 1, 0, 0, 0, 0, 0, 0, 0, 0, 0, 0, 0, 0, 0, 2}},
		{usual, 2, []int{19, 61}, make([]int, 41)},
		{usual, 3, []int{59, 241, 1}, make([]int, 181)},
		// A level with one hint alone.
		{one, 0, nil, []int{0}},
		{one, 1, []int{6, 8}, []int{0}},
		{one, 2, []int{7, 6, 7, 8, 7}, []int{3}},
		{one, 3, []int{7, 6, 7, 9, 10}, []int{2, 0, 1}},
		{one, 4, []int{7}, nil},
		{one, -1, []int{7}, nil},
	} {
		all := hintsOf(x.c, x.level)
		if got := spreads(t, x.c, x.level, all, x.l); !slices.Equal(got, x.want) {
			t.Errorf("Spread(%v, %d, %v) = %v, not %v", x.c, x.level, x.l, got, x.want)
		}
	}
}

// What Spread counts of Hints are all of them.
func TestSpreadOfHints(t *testing.T) {
	for _, c := range fine {
		for level := range 4 {
			all := hintsOf(c, level)
			for _, seed := range seeds {
				l := Hints(c, level, seed, 200)
				sum := 0
				for _, n := range spreads(t, c, level, all, l) {
					sum += n
				}
				if sum != 200 {
					t.Errorf("Spread(%v, %d) of the seed %d counts %d", c, level, seed, sum)
				}
				spreads(t, c, (level+1)%4, hintsOf(c, (level+1)%4), l)
			}
		}
	}
}

// Of all hints, each once, and of each as often as its place, there are as many.
func TestSpreadOfAll(t *testing.T) {
	for _, c := range fine {
		for level := range 4 {
			all := hintsOf(c, level)
			got := spreads(t, c, level, all, all)
			if slices.ContainsFunc(got, func(n int) bool { return n != 1 }) {
				t.Errorf("Spread(%v, %d) of all hints = %v", c, level, got)
			}
		}
	}
	for level := range 4 {
		var l []int
		for i, n := range hintsOf(usual, level) {
			l = slices.Concat(l, slices.Repeat([]int{n}, i))
		}
		for i, n := range spreads(t, usual, level, hintsOf(usual, level), l) {
			if n != i {
				t.Errorf("Spread(%d): the place %d is %d", level, i, n)
			}
		}
	}
}

// P17.4

// Each hint is Within, whatever the draw.
func TestHintsAreWithin(t *testing.T) {
	seed := uint64(174)
	for range 2000 {
		c := anyConf(&seed)
		checks(t, c)
		for level := range 4 {
			for range 20 {
				drawn := anyDraw(&seed)
				if n := Hint(c, level, drawn); !Within(c, level, n) || n < c.Lo[level] || c.Hi[level] < n {
					t.Errorf("Hint(%v, %d, %d) = %d is not within", c, level, drawn, n)
				}
			}
			for _, n := range Hints(c, level, anyDraw(&seed), 20) {
				if !Within(c, level, n) {
					t.Errorf("%d, of Hints of %v at %d, is not within", n, c, level)
				}
			}
		}
	}
}

// A hint hangs on the draw alone: not on what was asked ahead of it, nor on other levels' ends.
func TestHintHangsOnTheDraw(t *testing.T) {
	seed := uint64(4)
	for range 3000 {
		c := anyConf(&seed)
		level := draw(&seed, 4)
		drawn := anyDraw(&seed)
		want := Hint(c, level, drawn)
		Hint(c, level, drawn+1)
		Hints(c, level, drawn, 9)
		Hint(usual, 3-level, drawn)
		if n := Hint(c, level, drawn); n != want {
			t.Errorf("Hint(%v, %d, %d) = %d, and was %d", c, level, drawn, n, want)
		}
		other := around(c.Lo[level], c.Hi[level], level)
		if n := Hint(other, level, drawn); n != want {
			t.Errorf("Hint(%v, %d, %d) = %d, not %d", other, level, drawn, n, want)
		}
		same := Conf{}
		for i := range same.Lo {
			same.Lo[i], same.Hi[i] = c.Lo[level], c.Hi[level]
		}
		for i := range 4 {
			if n := Hint(same, i, drawn); n != want {
				t.Errorf("Hint(%v, %d, %d) = %d, not %d", same, i, drawn, n, want)
			}
		}
	}
}

// Each number from Lo to Hi is the hint of some draw: of one of as many draws in a row, wherever they begin, but where they go round.
func TestEachHintComes(t *testing.T) {
	for _, c := range fine {
		for level := range 4 {
			all := hintsOf(c, level)
			width := uint64(len(all))
			for _, from := range []uint64{0, 1, width, 1<<63 - 3, 1 << 63, -width} {
				var l []int
				for i := range width {
					l = append(l, Hint(c, level, from+i))
				}
				slices.Sort(l)
				if !slices.Equal(l, all) {
					t.Errorf("Hint(%v, %d) from %d on: %v", c, level, from, l)
				}
			}
		}
	}
}

func TestRandomWalk(t *testing.T) {
	seed := uint64(17)
	for range 600 {
		c := anyConf(&seed)
		if draw(&seed, 4) == 0 {
			end := &c.Lo[draw(&seed, 4)]
			if draw(&seed, 2) == 0 {
				end = &c.Hi[draw(&seed, 4)]
			}
			*end = []int{-1, 0, 1, 2, 50, 9999, 10000, 10001}[draw(&seed, 8)]
		}
		checks(t, c)
		for level := -1; level < 5; level++ {
			asked(t, c, level)
			all := hintsOf(c, level)
			l := lists(t, c, level, all, anyDraw(&seed), draw(&seed, 220)-10)
			spreads(t, c, level, all, l)
		}
	}
}

// What comes in stays as it was, and what is told is new memory.

func TestWhatIsToldStays(t *testing.T) {
	c := usual
	l := Hints(c, 1, 17, 5)
	other := Hints(c, 1, 17, 5)
	clear(l[:cap(l)])
	if !slices.Equal(other, []int{8, 6, 17, 8, 19}) {
		t.Errorf("told %v", other)
	}
	if again := Hints(c, 1, 17, 5); !slices.Equal(again, other) {
		t.Errorf("told %v", again)
	}
	spare := []int{4, 1, 4, 3, 3}
	spread, twice := Spread(c, 0, spare[:3]), Spread(c, 0, spare[:3])
	if !slices.Equal(spare, []int{4, 1, 4, 3, 3}) {
		t.Errorf("left %v", spare)
	}
	clear(spare)
	clear(twice[:cap(twice)])
	if !slices.Equal(spread, []int{1, 0, 0, 2}) {
		t.Errorf("told %v", spread)
	}
	if c != usual {
		t.Errorf("left %v", c)
	}
	told := Usual()
	clear(told.Lo[:])
	clear(told.Hi[:])
	if Usual() != usual {
		t.Errorf("Usual() = %v", Usual())
	}
}

// All hints of a level are in the list, but the spread is no part of it.
func TestSpreadIsNotTheList(t *testing.T) {
	l := []int{1, 2, 3, 4}
	spread := Spread(usual, 0, l)
	clear(spread[:cap(spread)])
	if !slices.Equal(l, []int{1, 2, 3, 4}) {
		t.Errorf("left %v", l)
	}
}

func TestExample(t *testing.T) {
	if n := Hint(Usual(), 1, 17); n != 6 {
		t.Errorf("Hint = %d", n)
	}
}
