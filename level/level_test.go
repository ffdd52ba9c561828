package level

import (
	"math"
	"slices"
	"testing"

	"callboy/api"
)

// last is the last tick that there is.
const last = 1 << 40

// usual is the usual conf, written out.
var usual = Conf{[3]int{50, 75, 90}, [3]int{40, 60, 80}, 5}

// bounds are loads at the ends of what may be, and about them.
var bounds = []int{math.MinInt, -1, 0, 1, 50, 99, 100, 101, math.MaxInt}

// refused are confs that Check refuses, one for each reason.
var refused = []Conf{
	{[3]int{-1, 75, 90}, [3]int{0, 60, 80}, 5},
	{[3]int{50, 75, 101}, [3]int{40, 60, 80}, 5},
	{[3]int{50, 75, 90}, [3]int{-1, 60, 80}, 5},
	{[3]int{50, 75, 100}, [3]int{40, 60, 101}, 5},
	{[3]int{50, 75, 90}, [3]int{40, 60, 80}, -1},
	{[3]int{50, 75, 90}, [3]int{40, 60, 80}, 1001},
	{[3]int{50, 45, 90}, [3]int{40, 45, 80}, 5},
	{[3]int{50, 75, 74}, [3]int{40, 60, 70}, 5},
	{[3]int{50, 75, 90}, [3]int{40, 39, 80}, 5},
	{[3]int{50, 75, 90}, [3]int{40, 60, 59}, 5},
	{[3]int{50, 75, 90}, [3]int{51, 60, 80}, 5},
	{[3]int{50, 75, 90}, [3]int{40, 76, 80}, 5},
	{[3]int{50, 75, 90}, [3]int{40, 60, 91}, 5},
}

// notFine are states that Fine refuses, one for each reason.
var notFine = []State{
	{-1, 0, -1}, {4, 0, -1}, {math.MinInt, 3, -1}, {math.MaxInt, 3, -1},
	{1, -1, -1}, {1, last + 1, -1}, {1, math.MinInt, 3}, {1, math.MaxInt, 3},
	{2, 0, -2}, {2, 0, last + 1}, {2, 7, math.MinInt}, {2, 7, math.MaxInt},
}

// What the calls should tell, in the test's own words.

func checked(c Conf) api.Errno {
	loads := append(c.Up[:], c.Down[:]...)
	if slices.Min(loads) < 0 || 100 < slices.Max(loads) || c.Hold < 0 || 1000 < c.Hold {
		return api.ErrRange
	}
	falls := c.Up[1] < c.Up[0] || c.Up[2] < c.Up[1] || c.Down[1] < c.Down[0] || c.Down[2] < c.Down[1]
	above := c.Up[0] < c.Down[0] || c.Up[1] < c.Down[1] || c.Up[2] < c.Down[2]
	if falls || above {
		return api.ErrOrder
	}
	return api.OK
}

func mayState(st State) bool {
	return !(st.Level < 0 || 3 < st.Level || st.Since < 0 || last < st.Since || st.Low < -1 || last < st.Low)
}

// between tells the one of two ends that a number is beyond, or the number.
func between(least, n, most int) int {
	if n < least {
		return least
	}
	if n > most {
		return most
	}
	return n
}

// reached tells how many Ups a load reaches: as they do not fall, it is the level that the load rises to from 0.
func reached(c Conf, load int) int {
	n := 0
	for _, up := range c.Up {
		if up <= load {
			n++
		}
	}
	return n
}

// stepped tells what Step should.
func stepped(c Conf, st State, load, now int) State {
	if checked(c) != api.OK || !mayState(st) {
		return st
	}
	load = between(0, load, 100)
	now = between(st.Low, between(st.Since, now, last), last)
	if level := reached(c, load); st.Level < level {
		return State{level, now, -1}
	}
	if st.Level == 0 || c.Down[st.Level-1] <= load {
		return State{st.Level, st.Since, -1}
	}
	low := st.Low
	if low < 0 {
		low = now
	}
	if now < low+c.Hold {
		return State{st.Level, st.Since, low}
	}
	return State{st.Level - 1, now, -1}
}

// gone tells what Run should, by looking back: a level falls when the last loads, one more than Hold, all came behind the tick at which it began, and were all below its Down.
func gone(c Conf, loads []int) []int {
	if checked(c) != api.OK {
		return nil
	}
	var held, l []int
	level, began := 0, 0
	for i, load := range loads {
		tick := i + 1
		held = append(held, between(0, load, 100))
		if to := reached(c, held[i]); to > level {
			level, began = to, tick
		} else if level > 0 && tick-c.Hold > began && slices.Max(held[i-c.Hold:]) < c.Down[level-1] {
			level, began = level-1, tick
		}
		l = append(l, level)
	}
	return l
}

// draw tells a number below another one, by the seed.
func draw(seed *uint64, below int) int {
	*seed = *seed*6364136223846793005 + 1442695040888963407
	return int(*seed >> 33 % uint64(below))
}

// rising tells all lists of three of some loads that do not fall.
func rising(loads ...int) [][3]int {
	var l [][3]int
	for i, a := range loads {
		for j := i; j < len(loads); j++ {
			for _, c := range loads[j:] {
				l = append(l, [3]int{a, loads[j], c})
			}
		}
	}
	return l
}

// eachConf calls with all confs of some loads and Holds that Check does not refuse.
func eachConf(loads, holds []int, call func(c Conf)) {
	for _, up := range rising(loads...) {
		for _, down := range rising(loads...) {
			for _, hold := range holds {
				if c := (Conf{up, down, hold}); checked(c) == api.OK {
					call(c)
				}
			}
		}
	}
}

// loadsOf are the ends of what loads may be, and all loads just below a conf's Ups and Downs, at them and above them.
func loadsOf(c Conf) []int {
	l := slices.Clone(bounds)
	for i := range c.Up {
		l = append(l, c.Up[i]-1, c.Up[i], c.Up[i]+1, c.Down[i]-1, c.Down[i], c.Down[i]+1)
	}
	return distinct(l...)
}

// ticksOf are the ends of what ticks may be, and those about a state's, and about the one at which it may fall.
func ticksOf(c Conf, st State) []int {
	l := []int{math.MinInt, -1, 0, 1, last - 1, last, last + 1, math.MaxInt}
	for _, at := range []int{st.Since, st.Low} {
		if at >= 0 && at <= last {
			l = append(l, at-1, at, at+1, at+c.Hold-1, at+c.Hold, at+c.Hold+1)
		}
	}
	return distinct(l...)
}

func distinct(l ...int) []int {
	slices.Sort(l)
	return slices.Compact(l)
}

// The calls, held against what they should tell.

func checks(t *testing.T, c Conf) {
	t.Helper()
	if e, want := Check(c), checked(c); e != want {
		t.Errorf("Check(%v) = %d, not %d", c, int(e), int(want))
	}
}

func steps(t *testing.T, c Conf, st State, load, now int) State {
	t.Helper()
	got, want := Step(c, st, load, now), stepped(c, st, load, now)
	if got != want {
		t.Errorf("Step(%v, %v, %d, %d) = %v, not %v", c, st, load, now, got, want)
	}
	return got
}

func runs(t *testing.T, c Conf, loads []int) []int {
	t.Helper()
	given := slices.Clone(loads)
	got, want := Run(c, given), gone(c, loads)
	if !slices.Equal(got, want) {
		t.Errorf("Run(%v, %v) = %v, not %v", c, loads, got, want)
	}
	if !slices.Equal(given, loads) {
		t.Errorf("Run(%v, %v) has written %v", c, loads, given)
	}
	return got
}

// P16.1

func TestCheck(t *testing.T) {
	var c Conf
	for way := range len(bounds) * len(bounds) * len(bounds) * len(bounds) * len(bounds) * len(bounds) {
		for i := range 3 {
			c.Up[i], way = bounds[way%len(bounds)], way/len(bounds)
			c.Down[i], way = bounds[way%len(bounds)], way/len(bounds)
		}
		c.Hold = 5
		checks(t, c)
	}
	for n := -2; n < 103; n++ {
		for i := range 3 {
			c := usual
			c.Up[i] = n
			checks(t, c)
			c.Down[i] = n
			checks(t, c)
			c.Up[i] = usual.Up[i]
			checks(t, c)
		}
	}
}

func TestCheckEdges(t *testing.T) {
	for _, x := range []struct {
		c    Conf
		want api.Errno
	}{
		{Conf{}, api.OK},
		{usual, api.OK},
		// Each Up at its ends.
		{Conf{[3]int{0, 75, 90}, [3]int{0, 60, 80}, 5}, api.OK},
		{Conf{[3]int{-1, 75, 90}, [3]int{0, 60, 80}, 5}, api.ErrRange},
		{Conf{[3]int{-1, 75, 90}, [3]int{-1, 60, 80}, 5}, api.ErrRange},
		{Conf{[3]int{math.MinInt, 75, 90}, [3]int{0, 60, 80}, 5}, api.ErrRange},
		{Conf{[3]int{100, 100, 100}, [3]int{40, 60, 80}, 5}, api.OK},
		{Conf{[3]int{101, 101, 101}, [3]int{40, 60, 80}, 5}, api.ErrRange},
		{Conf{[3]int{math.MaxInt, 75, 90}, [3]int{40, 60, 80}, 5}, api.ErrRange},
		{Conf{[3]int{0, 0, 90}, [3]int{0, 0, 80}, 5}, api.OK},
		{Conf{[3]int{0, -1, 90}, [3]int{0, 0, 80}, 5}, api.ErrRange},
		{Conf{[3]int{0, math.MinInt, 90}, [3]int{0, 0, 80}, 5}, api.ErrRange},
		{Conf{[3]int{50, 100, 100}, [3]int{40, 60, 80}, 5}, api.OK},
		{Conf{[3]int{50, 101, 100}, [3]int{40, 60, 80}, 5}, api.ErrRange},
		{Conf{[3]int{50, math.MaxInt, 90}, [3]int{40, 60, 80}, 5}, api.ErrRange},
		{Conf{[3]int{0, 0, 0}, [3]int{0, 0, 0}, 5}, api.OK},
		{Conf{[3]int{0, 0, -1}, [3]int{0, 0, 0}, 5}, api.ErrRange},
		{Conf{[3]int{0, 0, math.MinInt}, [3]int{0, 0, 0}, 5}, api.ErrRange},
		{Conf{[3]int{50, 75, 100}, [3]int{40, 60, 80}, 5}, api.OK},
		{Conf{[3]int{50, 75, 101}, [3]int{40, 60, 80}, 5}, api.ErrRange},
		{Conf{[3]int{50, 75, math.MaxInt}, [3]int{40, 60, 80}, 5}, api.ErrRange},
		// Each Down at its ends.
		{Conf{[3]int{50, 75, 90}, [3]int{0, 60, 80}, 5}, api.OK},
		{Conf{[3]int{50, 75, 90}, [3]int{-1, 60, 80}, 5}, api.ErrRange},
		{Conf{[3]int{50, 75, 90}, [3]int{math.MinInt, 60, 80}, 5}, api.ErrRange},
		{Conf{[3]int{50, 75, 90}, [3]int{0, 0, 80}, 5}, api.OK},
		{Conf{[3]int{50, 75, 90}, [3]int{0, -1, 80}, 5}, api.ErrRange},
		{Conf{[3]int{50, 75, 90}, [3]int{0, math.MinInt, 80}, 5}, api.ErrRange},
		{Conf{[3]int{50, 75, 90}, [3]int{0, 0, 0}, 5}, api.OK},
		{Conf{[3]int{50, 75, 90}, [3]int{0, 0, -1}, 5}, api.ErrRange},
		{Conf{[3]int{50, 75, 90}, [3]int{0, 0, math.MinInt}, 5}, api.ErrRange},
		{Conf{[3]int{100, 100, 100}, [3]int{100, 100, 100}, 5}, api.OK},
		{Conf{[3]int{100, 100, 100}, [3]int{101, 100, 100}, 5}, api.ErrRange},
		{Conf{[3]int{100, 100, 100}, [3]int{100, 101, 100}, 5}, api.ErrRange},
		{Conf{[3]int{100, 100, 100}, [3]int{100, 100, 101}, 5}, api.ErrRange},
		{Conf{[3]int{100, 100, 100}, [3]int{math.MaxInt, 100, 100}, 5}, api.ErrRange},
		{Conf{[3]int{100, 100, 100}, [3]int{100, math.MaxInt, 100}, 5}, api.ErrRange},
		{Conf{[3]int{100, 100, 100}, [3]int{100, 100, math.MaxInt}, 5}, api.ErrRange},
		// The Hold at its ends.
		{Conf{usual.Up, usual.Down, math.MinInt}, api.ErrRange},
		{Conf{usual.Up, usual.Down, -1}, api.ErrRange},
		{Conf{usual.Up, usual.Down, 0}, api.OK},
		{Conf{usual.Up, usual.Down, 1}, api.OK},
		{Conf{usual.Up, usual.Down, 999}, api.OK},
		{Conf{usual.Up, usual.Down, 1000}, api.OK},
		{Conf{usual.Up, usual.Down, 1001}, api.ErrRange},
		{Conf{usual.Up, usual.Down, math.MaxInt}, api.ErrRange},
		// The same ones, and ones that fall at the second place, and at the third.
		{Conf{[3]int{50, 50, 50}, [3]int{40, 40, 40}, 5}, api.OK},
		{Conf{[3]int{50, 49, 90}, [3]int{40, 40, 40}, 5}, api.ErrOrder},
		{Conf{[3]int{50, 75, 74}, [3]int{40, 40, 40}, 5}, api.ErrOrder},
		{Conf{[3]int{50, 50, 50}, [3]int{40, 39, 40}, 5}, api.ErrOrder},
		{Conf{[3]int{50, 50, 50}, [3]int{40, 40, 39}, 5}, api.ErrOrder},
		{Conf{[3]int{50, 45, 90}, [3]int{40, 41, 42}, 5}, api.ErrOrder},
		// A Down that is its Up, and one above it.
		{Conf{[3]int{50, 75, 90}, [3]int{50, 75, 90}, 5}, api.OK},
		{Conf{[3]int{50, 75, 90}, [3]int{50, 60, 80}, 5}, api.OK},
		{Conf{[3]int{50, 75, 90}, [3]int{51, 60, 80}, 5}, api.ErrOrder},
		{Conf{[3]int{50, 75, 90}, [3]int{40, 75, 80}, 5}, api.OK},
		{Conf{[3]int{50, 75, 90}, [3]int{40, 76, 80}, 5}, api.ErrOrder},
		{Conf{[3]int{50, 75, 90}, [3]int{40, 60, 90}, 5}, api.OK},
		{Conf{[3]int{50, 75, 90}, [3]int{40, 60, 91}, 5}, api.ErrOrder},
		{Conf{[3]int{50, 75, 90}, [3]int{40, 60, 50}, 5}, api.ErrOrder},
		// Out of range and out of order at once.
		{Conf{[3]int{50, 40, 90}, [3]int{40, 40, 80}, -1}, api.ErrRange},
		{Conf{[3]int{50, 40, 90}, [3]int{40, 40, 80}, 1001}, api.ErrRange},
		{Conf{[3]int{50, 40, 101}, [3]int{40, 40, 80}, 5}, api.ErrRange},
		{Conf{[3]int{50, 75, -1}, [3]int{40, 60, 80}, 5}, api.ErrRange},
		{Conf{[3]int{50, 75, 90}, [3]int{51, 60, -1}, 5}, api.ErrRange},
		{Conf{[3]int{50, 75, 90}, [3]int{51, 101, 80}, 5}, api.ErrRange},
		{Conf{[3]int{90, 75, 50}, [3]int{80, 60, 40}, 1001}, api.ErrRange},
	} {
		if e := Check(x.c); e != x.want {
			t.Errorf("Check(%v) = %d, not %d", x.c, int(e), int(x.want))
		}
	}
}

func TestFine(t *testing.T) {
	ends := []int{math.MinInt, -2, -1, 0, 1, 2, 3, 4, 1000, last - 1, last, last + 1, math.MaxInt}
	for _, level := range ends {
		for _, since := range ends {
			for _, low := range ends {
				st := State{level, since, low}
				if ok := Fine(st); ok != mayState(st) {
					t.Errorf("Fine(%v) = %v", st, ok)
				}
			}
		}
	}
}

func TestFineEdges(t *testing.T) {
	for _, x := range []struct {
		st   State
		want bool
	}{
		{State{}, true},
		{State{0, 0, -1}, true},
		{State{-1, 0, -1}, false},
		{State{3, 0, -1}, true},
		{State{4, 0, -1}, false},
		{State{math.MinInt, 0, -1}, false},
		{State{math.MaxInt, 0, -1}, false},
		{State{1, -1, -1}, false},
		{State{1, 1 << 40, -1}, true},
		{State{1, 1<<40 + 1, -1}, false},
		{State{1, math.MinInt, -1}, false},
		{State{1, math.MaxInt, -1}, false},
		{State{1, 0, -2}, false},
		{State{1, 0, 0}, true},
		{State{1, 0, 1 << 40}, true},
		{State{1, 0, 1<<40 + 1}, false},
		{State{1, 0, math.MinInt}, false},
		{State{1, 0, math.MaxInt}, false},
		// Neither tick is held against the other one, nor Low against the level.
		{State{1, 1 << 40, 0}, true},
		{State{0, 7, 9}, true},
		{State{3, 1 << 40, 1 << 40}, true},
	} {
		if ok := Fine(x.st); ok != x.want {
			t.Errorf("Fine(%v) = %v", x.st, ok)
		}
	}
	for _, st := range notFine {
		if Fine(st) {
			t.Errorf("Fine(%v)", st)
		}
	}
}

func TestNew(t *testing.T) {
	if st := New(); st != (State{0, 0, -1}) || !Fine(st) {
		t.Errorf("New() = %v", st)
	}
}

func TestUsual(t *testing.T) {
	if c := Usual(); c != usual || Check(c) != api.OK {
		t.Errorf("Usual() = %v", c)
	}
}

// P16.2

func TestStep(t *testing.T) {
	eachConf([]int{0, 1, 50, 51, 100}, []int{0, 1, 5}, func(c Conf) {
		for level := range 4 {
			for _, st := range []State{{level, 0, -1}, {level, 7, -1}, {level, 7, 3}, {level, 7, 9}} {
				for _, load := range loadsOf(c) {
					for _, now := range []int{-1, 3, 7, 8, 9, 10, 14, last + 1} {
						steps(t, c, st, load, now)
					}
				}
			}
		}
	})
}

// All ticks, of a few confs.
func TestStepAtAllTicks(t *testing.T) {
	edges := []int{0, 1, 100, last - 1000, last - 1, last}
	for _, hold := range []int{0, 1, 2, 5, 999, 1000} {
		for _, c := range []Conf{{usual.Up, usual.Down, hold}, {[3]int{0, 0, 60}, [3]int{0, 0, 60}, hold}, {[3]int{100, 100, 100}, [3]int{100, 100, 100}, hold}} {
			for level := range 4 {
				for _, since := range edges {
					for _, low := range append([]int{-1}, edges...) {
						st := State{level, since, low}
						for _, now := range ticksOf(c, st) {
							for _, load := range loadsOf(c) {
								steps(t, c, st, load, now)
							}
						}
					}
				}
			}
		}
	}
}

func TestStepOfWhatMayNotBe(t *testing.T) {
	loads := []int{math.MinInt, -1, 0, 40, 100, 101, math.MaxInt}
	ticks := []int{math.MinInt, -1, 0, 7, 100, last, last + 1, math.MaxInt}
	for _, load := range loads {
		for _, now := range ticks {
			for _, c := range refused {
				for _, st := range append([]State{{0, 0, -1}, {2, 3, -1}, {2, 3, 5}, {3, 3, 5}}, notFine...) {
					if got := Step(c, st, load, now); got != st {
						t.Errorf("Step(%v, %v, %d, %d) = %v", c, st, load, now, got)
					}
				}
			}
			for _, st := range notFine {
				if got := Step(usual, st, load, now); got != st {
					t.Errorf("Step(%v, %v, %d, %d) = %v", usual, st, load, now, got)
				}
			}
		}
	}
}

func TestRise(t *testing.T) {
	for _, x := range []struct {
		up          [3]int
		level, load int
		want        int
	}{
		// Just below an Up, at it and above it, at each level.
		{usual.Up, 0, 49, 0},
		{usual.Up, 0, 50, 1},
		{usual.Up, 0, 51, 1},
		{usual.Up, 0, 74, 1},
		{usual.Up, 0, 75, 2},
		{usual.Up, 0, 76, 2},
		{usual.Up, 0, 89, 2},
		{usual.Up, 0, 90, 3},
		{usual.Up, 0, 91, 3},
		{usual.Up, 1, 74, 1},
		{usual.Up, 1, 75, 2},
		{usual.Up, 1, 76, 2},
		{usual.Up, 1, 89, 2},
		{usual.Up, 1, 90, 3},
		{usual.Up, 1, 91, 3},
		{usual.Up, 2, 89, 2},
		{usual.Up, 2, 90, 3},
		{usual.Up, 2, 91, 3},
		{usual.Up, 3, 91, 3},
		// Loads beyond their ends.
		{usual.Up, 0, math.MinInt, 0},
		{usual.Up, 0, -1, 0},
		{usual.Up, 0, 0, 0},
		{usual.Up, 0, 100, 3},
		{usual.Up, 0, 101, 3},
		{usual.Up, 0, math.MaxInt, 3},
		{usual.Up, 3, 100, 3},
		{usual.Up, 3, math.MaxInt, 3},
		{[3]int{100, 100, 100}, 0, 99, 0},
		{[3]int{100, 100, 100}, 0, 100, 3},
		{[3]int{100, 100, 100}, 0, 101, 3},
		// Several Ups that are the same, or 0.
		{[3]int{50, 50, 90}, 0, 49, 0},
		{[3]int{50, 50, 90}, 0, 50, 2},
		{[3]int{50, 90, 90}, 0, 89, 1},
		{[3]int{50, 90, 90}, 0, 90, 3},
		{[3]int{50, 50, 50}, 0, 50, 3},
		{[3]int{0, 75, 90}, 0, 0, 1},
		{[3]int{0, 0, 90}, 0, 0, 2},
		{[3]int{0, 0, 0}, 0, 0, 3},
		{[3]int{0, 0, 0}, 0, math.MinInt, 3},
		{[3]int{0, 0, 0}, 2, -1, 3},
	} {
		c := Conf{Up: x.up, Hold: 5}
		for _, low := range []int{-1, 3, 8} {
			for now, at := range map[int]int{math.MinInt: max(7, low), 0: max(7, low), 9: 9, last: last, math.MaxInt: last} {
				st := State{x.level, 7, low}
				want := State{x.want, at, -1}
				// Downs are all 0, so that no load is below them.
				if x.want == x.level {
					want.Since = 7
				}
				if got := Step(c, st, x.load, now); got != want {
					t.Errorf("Step(%v, %v, %d, %d) = %v, not %v", c, st, x.load, now, got, want)
				}
			}
		}
	}
}

func TestFall(t *testing.T) {
	for _, x := range []struct {
		st        State
		load, now int
		want      State
	}{
		// Just below a Down, at it and above it, at each level, with Low and without.
		{State{1, 3, -1}, 39, 10, State{1, 3, 10}},
		{State{1, 3, -1}, 40, 10, State{1, 3, -1}},
		{State{1, 3, -1}, 41, 10, State{1, 3, -1}},
		{State{1, 3, 8}, 39, 10, State{1, 3, 8}},
		{State{1, 3, 8}, 40, 10, State{1, 3, -1}},
		{State{1, 3, 8}, 41, 10, State{1, 3, -1}},
		{State{2, 3, -1}, 59, 10, State{2, 3, 10}},
		{State{2, 3, -1}, 60, 10, State{2, 3, -1}},
		{State{2, 3, -1}, 61, 10, State{2, 3, -1}},
		{State{2, 3, 8}, 59, 10, State{2, 3, 8}},
		{State{2, 3, 8}, 60, 10, State{2, 3, -1}},
		{State{3, 3, -1}, 79, 10, State{3, 3, 10}},
		{State{3, 3, -1}, 80, 10, State{3, 3, -1}},
		{State{3, 3, -1}, 81, 10, State{3, 3, -1}},
		{State{3, 3, 8}, 79, 10, State{3, 3, 8}},
		{State{3, 3, 8}, 80, 10, State{3, 3, -1}},
		{State{3, 3, 8}, 100, 100, State{3, 3, -1}},
		// At level 0 no load is low.
		{State{0, 3, -1}, 0, 10, State{0, 3, -1}},
		{State{0, 3, 8}, 0, 10, State{0, 3, -1}},
		{State{0, 3, 8}, 0, 100, State{0, 3, -1}},
		{State{0, 3, 8}, math.MinInt, 100, State{0, 3, -1}},
		{State{0, 3, 8}, 49, 100, State{0, 3, -1}},
		// Less than Hold behind Low, just Hold, and more.
		{State{2, 3, 8}, 59, 12, State{2, 3, 8}},
		{State{2, 3, 8}, 59, 13, State{1, 13, -1}},
		{State{2, 3, 8}, 59, 14, State{1, 14, -1}},
		{State{2, 3, 8}, 0, 1000, State{1, 1000, -1}},
		{State{1, 3, 8}, 39, 13, State{0, 13, -1}},
		{State{3, 3, 8}, 79, 13, State{2, 13, -1}},
		{State{3, 3, 0}, 0, 4, State{3, 3, 0}},
		{State{3, 3, 0}, 0, 5, State{2, 5, -1}},
		// A load at Down, long behind Low.
		{State{2, 3, 8}, 60, 1000, State{2, 3, -1}},
		// A rise while it was low.
		{State{2, 3, 8}, 90, 13, State{3, 13, -1}},
		{State{1, 3, 8}, 75, 9, State{2, 9, -1}},
		// Ticks below Since, below Low, and at each.
		{State{2, 9, -1}, 0, 8, State{2, 9, 9}},
		{State{2, 9, -1}, 0, math.MinInt, State{2, 9, 9}},
		{State{2, 9, -1}, 0, 9, State{2, 9, 9}},
		{State{2, 3, 8}, 0, 7, State{2, 3, 8}},
		{State{2, 3, 8}, 0, -1, State{2, 3, 8}},
		{State{2, 3, 8}, 0, 8, State{2, 3, 8}},
		{State{2, 9, 5}, 0, 0, State{2, 9, 5}},
		{State{2, 10, 5}, 0, 0, State{1, 10, -1}},
		{State{2, 10, 5}, 75, 0, State{2, 10, -1}},
		{State{2, 10, 5}, 90, 0, State{3, 10, -1}},
		{State{2, 10, 20}, 90, 0, State{3, 20, -1}},
		// About the last tick: beyond it none is later.
		{State{2, 3, -1}, 0, 1 << 40, State{2, 3, 1 << 40}},
		{State{2, 3, -1}, 0, 1<<40 + 1, State{2, 3, 1 << 40}},
		{State{2, 3, -1}, 0, math.MaxInt, State{2, 3, 1 << 40}},
		{State{2, 3, 1<<40 - 5}, 0, math.MaxInt, State{1, 1 << 40, -1}},
		{State{2, 3, 1<<40 - 4}, 0, math.MaxInt, State{2, 3, 1<<40 - 4}},
		{State{2, 3, 1 << 40}, 0, math.MaxInt, State{2, 3, 1 << 40}},
		{State{2, 1 << 40, -1}, 0, 0, State{2, 1 << 40, 1 << 40}},
		// Loads below 0 and above 100.
		{State{1, 3, 8}, -1, 13, State{0, 13, -1}},
		{State{1, 3, 8}, math.MinInt, 12, State{1, 3, 8}},
		{State{3, 3, 8}, 101, 13, State{3, 3, -1}},
		{State{3, 3, 8}, math.MaxInt, 13, State{3, 3, -1}},
	} {
		if got := Step(usual, x.st, x.load, x.now); got != x.want {
			t.Errorf("Step(%v, %d, %d) = %v, not %v", x.st, x.load, x.now, got, x.want)
		}
	}
}

func TestHold(t *testing.T) {
	for _, x := range []struct {
		hold, low, now int
		want           State
	}{
		// At once, by a Hold of 0.
		{0, -1, 10, State{1, 10, -1}},
		{0, -1, 0, State{1, 3, -1}},
		{0, 10, 10, State{1, 10, -1}},
		{0, 10, 0, State{1, 10, -1}},
		// A tick later, by a Hold of 1.
		{1, -1, 10, State{2, 3, 10}},
		{1, 10, 10, State{2, 3, 10}},
		{1, 10, 11, State{1, 11, -1}},
		{1, 10, 12, State{1, 12, -1}},
		// 1000 ticks later.
		{1000, -1, 10, State{2, 3, 10}},
		{1000, 10, 1009, State{2, 3, 10}},
		{1000, 10, 1010, State{1, 1010, -1}},
		{1000, 10, 1011, State{1, 1011, -1}},
		{1000, last - 1000, last - 1, State{2, 3, last - 1000}},
		{1000, last - 1000, last, State{1, last, -1}},
		{1000, last - 999, math.MaxInt, State{2, 3, last - 999}},
	} {
		c := Conf{usual.Up, usual.Down, x.hold}
		if got := Step(c, State{2, 3, x.low}, 0, x.now); got != x.want {
			t.Errorf("Step with Hold %d, Low %d, at %d = %v, not %v", x.hold, x.low, x.now, got, x.want)
		}
	}
}

// No load is below 0, so a Down of 0 lets nothing fall.
func TestNoFallBelowNought(t *testing.T) {
	for hold := range 3 {
		c := Conf{[3]int{50, 75, 90}, [3]int{0, 0, 0}, hold}
		for level := range 4 {
			for _, load := range []int{math.MinInt, -1, 0} {
				st := State{level, 3, 5}
				if got := Step(c, st, load, 1000); got != (State{level, 3, -1}) {
					t.Errorf("Step(%v, %v, %d, 1000) = %v", c, st, load, got)
				}
			}
		}
	}
}

// A state goes its way: low, and no more, and low again; a fall, and the next one as many ticks behind.
func TestStepsInARow(t *testing.T) {
	st := New()
	for _, x := range []struct {
		load, now int
		want      State
	}{
		{95, 1, State{3, 1, -1}},
		{79, 2, State{3, 1, 2}},
		{79, 6, State{3, 1, 2}},
		{80, 7, State{3, 1, -1}},
		{79, 8, State{3, 1, 8}},
		{0, 12, State{3, 1, 8}},
		{79, 13, State{2, 13, -1}},
		{0, 13, State{2, 13, 13}},
		{0, 17, State{2, 13, 13}},
		{0, 18, State{1, 18, -1}},
		{0, 19, State{1, 18, 19}},
		{0, 23, State{1, 18, 19}},
		{75, 24, State{2, 24, -1}},
		{59, 25, State{2, 24, 25}},
		{59, 5, State{2, 24, 25}},
		{59, 30, State{1, 30, -1}},
		{59, 40, State{1, 30, -1}},
		{39, 50, State{1, 30, 50}},
		{39, 55, State{0, 55, -1}},
		{0, 90, State{0, 55, -1}},
		{49, 91, State{0, 55, -1}},
		{50, 92, State{1, 92, -1}},
		{100, 92, State{3, 92, -1}},
	} {
		if st = Step(usual, st, x.load, x.now); st != x.want {
			t.Errorf("at %d, by %d: %v, not %v", x.now, x.load, st, x.want)
		}
	}
}

// P16.3

func TestRun(t *testing.T) {
	for _, x := range []struct {
		c           Conf
		loads, want []int
	}{
		{usual, nil, nil},
		{usual, []int{}, nil},
		{usual, []int{49}, []int{0}},
		{usual, []int{50}, []int{1}},
		{usual, []int{80}, []int{2}},
		{usual, []int{math.MaxInt}, []int{3}},
		{usual, []int{math.MinInt}, []int{0}},
		{usual, []int{101, -1, -1, -1, -1, -1, -1, -1}, []int{3, 3, 3, 3, 3, 3, 2, 2}},
		{usual, []int{50, 39, 39, 39, 39, 39, 39, 0}, []int{1, 1, 1, 1, 1, 1, 0, 0}},
		{usual, []int{50, 39, 39, 40, 39, 39, 39, 39, 39, 39}, []int{1, 1, 1, 1, 1, 1, 1, 1, 1, 0}},
		{Conf{usual.Up, usual.Down, 0}, []int{100, 0, 0, 0, 0, 50}, []int{3, 2, 1, 0, 0, 1}},
		{Conf{usual.Up, usual.Down, 1}, []int{100, 0, 0, 0, 0, 0, 0}, []int{3, 3, 2, 2, 1, 1, 0}},
		{Conf{}, []int{0, -5, 100}, []int{3, 3, 3}},
	} {
		if got := runs(t, x.c, x.loads); !slices.Equal(got, x.want) {
			t.Errorf("Run(%v, %v) = %v, not %v", x.c, x.loads, got, x.want)
		}
	}
}

func TestRunOfAConfThatIsRefused(t *testing.T) {
	for _, c := range refused {
		for _, loads := range [][]int{nil, {0}, {100}, {80, 0, 0}} {
			if l := Run(c, loads); len(l) != 0 {
				t.Errorf("Run(%v, %v) = %v", c, loads, l)
			}
		}
	}
}

// All that up to seven loads of five can be.
func TestRunOfAllLoads(t *testing.T) {
	confs := []Conf{
		{[3]int{2, 3, 4}, [3]int{1, 2, 3}, 0},
		{[3]int{2, 3, 4}, [3]int{1, 2, 3}, 1},
		{[3]int{2, 3, 4}, [3]int{2, 3, 4}, 2},
		{[3]int{1, 3, 3}, [3]int{1, 1, 3}, 1},
		{[3]int{0, 4, 4}, [3]int{0, 1, 4}, 3},
	}
	ahead := [][]int{nil}
	for range 7 {
		var next [][]int
		for _, l := range ahead {
			for load := range 5 {
				next = append(next, append(slices.Clone(l), load))
			}
		}
		for _, l := range next {
			for _, c := range confs {
				runs(t, c, l)
			}
		}
		ahead = next
	}
}

// The levels are those of Steps from New on, at the ticks 1, 2, and so on.
func TestRunIsSteps(t *testing.T) {
	seed := uint64(16)
	for range 3000 {
		c := anyConf(&seed)
		loads := make([]int, draw(&seed, 60))
		for i := range loads {
			loads[i] = draw(&seed, 130) - 15
		}
		l := runs(t, c, loads)
		st := New()
		for i, load := range loads {
			st = steps(t, c, st, load, i+1)
			if l[i] != st.Level {
				t.Errorf("Run(%v, %v): %v, and the place %d should be %d", c, loads, l, i, st.Level)
			}
		}
	}
}

// A long run: the least that is low long enough, 1000 ticks and one, three times.
func TestLongRun(t *testing.T) {
	c := Conf{usual.Up, usual.Down, 1000}
	loads := append([]int{100}, make([]int, 3100)...)
	l := runs(t, c, loads)
	for i, level := range l {
		if want := 3 - min(i/1001, 3); level != want {
			t.Fatalf("the place %d is %d, not %d", i, level, want)
		}
	}
}

// anyConf tells a conf that Check does not refuse.
func anyConf(seed *uint64) Conf {
	var c Conf
	for i := range c.Up {
		c.Up[i] = draw(seed, 101)
		c.Down[i] = draw(seed, c.Up[i]+1)
	}
	// Both sorted, each Down is still at most its Up.
	slices.Sort(c.Up[:])
	slices.Sort(c.Down[:])
	c.Hold = []int{0, 1, 2, 3, 5, 8}[draw(seed, 6)]
	return c
}

// P16.4

func TestAllows(t *testing.T) {
	numbers := []int{math.MinInt, -2, -1, 0, 1, 2, 3, 4, 5, 1 << 32, math.MaxInt}
	// What is allowed at the levels 0 to 3: what stands in a level's text.
	allowed := []string{"0123", "0123", "023", "3"}
	for _, level := range numbers {
		for _, what := range numbers {
			want := false
			if level >= 0 && level < 4 {
				for _, r := range allowed[level] {
					want = want || int(r-'0') == what
				}
			}
			if ok := Allows(level, what); ok != want {
				t.Errorf("Allows(%d, %d) = %v", level, what, ok)
			}
		}
	}
}

func TestName(t *testing.T) {
	for _, x := range []struct {
		level int
		want  string
	}{
		{math.MinInt, ""}, {-1, ""}, {0, "calm"}, {1, "busy"}, {2, "tight"}, {3, "shut"}, {4, ""}, {1 << 32, ""}, {math.MaxInt, ""},
	} {
		if s := Name(x.level); s != x.want {
			t.Errorf("Name(%d) = %q, not %q", x.level, s, x.want)
		}
	}
}

// P16.5

// sound holds a step against what all steps have in common, and tells for how long the load has been low behind it: since which tick, or -1.
func sound(t *testing.T, c Conf, st, next State, load, now, low int) int {
	t.Helper()
	load = between(0, load, 100)
	switch {
	case !Fine(next):
		t.Errorf("%v became %v", st, next)
	case next.Level < st.Level-1:
		t.Errorf("%v fell to %v", st, next)
	case load == 100 && next.Level != 3:
		t.Errorf("%v, by %d: %v", st, load, next)
	case next.Level < reached(c, load):
		t.Errorf("%v, by %d, rose no more than to %v", st, load, next)
	case next.Level != st.Level && (next.Since != now || next.Low != -1):
		t.Errorf("%v, at %d, became %v", st, now, next)
	}
	if st.Level == 0 || load >= c.Down[st.Level-1] {
		low = -1
	} else if low < 0 {
		low = now
	}
	if next.Level < st.Level && (low < 0 || now-low < c.Hold) {
		t.Errorf("%v, low since %d, fell at %d", st, low, now)
	}
	if next.Level >= st.Level && low >= 0 && now-low >= c.Hold {
		t.Errorf("%v, low since %d, did not fall at %d", st, low, now)
	}
	if next.Level != st.Level {
		low = -1
	}
	return low
}

func TestRandomWalk(t *testing.T) {
	seed := uint64(165)
	for range 3000 {
		c := anyConf(&seed)
		st, low := New(), -1
		now := []int{0, 1000, last - 60}[draw(&seed, 3)]
		load := 50
		for range 100 {
			now = min(now+[]int{0, 1, 1, 1, 2, 7}[draw(&seed, 6)], last)
			if draw(&seed, 4) == 0 {
				load = draw(&seed, 115) - 5
			}
			next := steps(t, c, st, load, now)
			low = sound(t, c, st, next, load, now, low)
			st = next
		}
	}
}

// Whatever it was, a load of 100 makes it 3, at once.
func TestFullLoad(t *testing.T) {
	eachConf([]int{0, 1, 50, 99, 100}, []int{0, 5, 1000}, func(c Conf) {
		for level := range 4 {
			for _, load := range []int{100, 101, math.MaxInt} {
				for _, low := range []int{-1, 0, 9} {
					st := Step(c, State{level, 7, low}, load, 20)
					if st.Level != 3 || st.Low != -1 || (level < 3) != (st.Since == 20) {
						t.Errorf("Step(%v, level %d, %d) = %v", c, level, load, st)
					}
				}
			}
		}
	})
}

// What is told is new memory.

func TestWhatIsToldStays(t *testing.T) {
	spare := []int{80, 0, 100, 7, 8}
	l := Run(usual, spare[:3])
	if !slices.Equal(spare, []int{80, 0, 100, 7, 8}) {
		t.Errorf("left %v", spare)
	}
	clear(spare)
	if !slices.Equal(l, []int{2, 2, 3}) {
		t.Errorf("told %v", l)
	}
	other := Run(usual, []int{80, 0, 100})
	clear(l[:cap(l)])
	if !slices.Equal(other, []int{2, 2, 3}) {
		t.Errorf("told %v", other)
	}
	c := Usual()
	clear(c.Up[:])
	if Usual() != usual {
		t.Errorf("Usual() = %v", Usual())
	}
}

func TestExample(t *testing.T) {
	l := Run(Usual(), []int{80, 0, 0, 0, 0, 0, 0})
	if !slices.Equal(l, []int{2, 2, 2, 2, 2, 2, 1}) {
		t.Errorf("Run = %v", l)
	}
}
