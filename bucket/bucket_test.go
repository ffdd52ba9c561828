package bucket

import (
	"math"
	"slices"
	"testing"

	"callboy/api"
)

// last is the last tick that there is.
const last = 1 << 40

// bursts and rates are numbers at the ends of what may be, and about them.
var (
	bursts = []int{math.MinInt, -1000, -1, 0, 1, 2, 3, 7, 10, 999, 1000, 1001, 1 << 32, math.MaxInt}
	rates  = []int{math.MinInt, -1000, -1, 0, 1, 2, 3, 7, 10, 999, 1000, 1001, 1 << 32, math.MaxInt}
)

// mayConf and mayState tell what may be, in the test's own words.
func mayConf(c Conf) bool {
	return 0 < c.Burst && c.Burst < 1001 && -1 < c.Rate && c.Rate < 1001
}

func mayState(c Conf, st State) bool {
	if !mayConf(c) {
		return false
	}
	return !(st.Tokens < 0 || c.Burst < st.Tokens || st.At < 0 || last < st.At)
}

// between tells the one of two ends that a number is beyond, or the number.
func between(least, n, most int) int {
	if n < least {
		return least
	}
	if n > most {
		return most
	}
	return n
}

// counted tells a level so many ticks behind At, counted tick by tick. Where one tick brings none, none behind it does.
func counted(c Conf, tokens, ticks int) int {
	for range ticks {
		more := min(tokens+c.Rate, c.Burst)
		if more == tokens {
			break
		}
		tokens = more
	}
	return tokens
}

// levelOf tells what Level should.
func levelOf(c Conf, st State, now int) int {
	if !mayState(c, st) {
		return 0
	}
	return counted(c, st.Tokens, between(st.At, now, last)-st.At)
}

// taken tells what Take should.
func taken(c Conf, st State, now, n int) (State, bool) {
	level := levelOf(c, st, now)
	if !mayState(c, st) || n < 0 || level < n {
		return st, false
	}
	return State{level - n, between(st.At, now, last)}, true
}

// waited tells what Wait should: it looks at each tick from now on. A bucket that any come back to is full within 1000 ticks.
func waited(c Conf, st State, now, n int) int {
	if !mayState(c, st) || n < 0 {
		return -1
	}
	level := levelOf(c, st, now)
	for ticks := range 1001 {
		if level >= n {
			return ticks
		}
		level = counted(c, level, 1)
	}
	return -1
}

// gone tells what Run should.
func gone(c Conf, st State, ticks []int) (State, []bool) {
	var l []bool
	for _, now := range ticks {
		next, ok := taken(c, st, now, 1)
		st, l = next, append(l, ok)
	}
	return st, l
}

// eachConf calls with all confs of the numbers above.
func eachConf(call func(c Conf)) {
	for _, burst := range bursts {
		for _, rate := range rates {
			call(Conf{burst, rate})
		}
	}
}

// tokensOf are Tokens at the ends of what may be, and about them.
func tokensOf(c Conf) []int {
	return distinct(math.MinInt, -1, 0, 1, 2, c.Burst/2, c.Burst-1, c.Burst, c.Burst+1, 1000, 1001, math.MaxInt)
}

// ats are Ats at the ends of what may be, and about them.
var ats = []int{math.MinInt, -1, 0, 1, 100, last - 1000, last - 1, last, last + 1, math.MaxInt}

// eachState calls with all states of the numbers above.
func eachState(c Conf, call func(st State)) {
	for _, tokens := range tokensOf(c) {
		for _, at := range ats {
			call(State{tokens, at})
		}
	}
}

// ticksOf are ticks about At and the last one, and about the one at which the bucket is full.
func ticksOf(c Conf, st State) []int {
	l := []int{math.MinInt, -last, -1, 0, 1, last - 1, last, last + 1, 2 * last, math.MaxInt}
	if !mayState(c, st) {
		return l
	}
	l = append(l, st.At-1, st.At, st.At+1, st.At+2, st.At+1000, st.At+last/2)
	if c.Rate > 0 {
		full := st.At + (c.Burst-st.Tokens)/c.Rate
		l = append(l, full-1, full, full+1, full+2)
	}
	return distinct(l...)
}

// numbersOf are how many tokens are asked for, at the ends of what is there, and about them.
func numbersOf(c Conf, level int) []int {
	return distinct(math.MinInt, -1, 0, 1, 2, level-1, level, level+1, level+c.Rate, level+c.Rate+1, level+2*c.Rate, c.Burst-1, c.Burst, c.Burst+1, 1000, 1001, math.MaxInt)
}

func distinct(l ...int) []int {
	slices.Sort(l)
	return slices.Compact(l)
}

// draw tells a number below another one, by the seed.
func draw(seed *uint64, below int) int {
	*seed = *seed*6364136223846793005 + 1442695040888963407
	return int(*seed >> 33 % uint64(below))
}

// The calls, held against what they should tell.

func levels(t *testing.T, c Conf, st State, now int) {
	t.Helper()
	if got, want := Level(c, st, now), levelOf(c, st, now); got != want {
		t.Errorf("Level(%v, %v, %d) = %d, not %d", c, st, now, got, want)
	}
}

func takes(t *testing.T, c Conf, st State, now, n int) {
	t.Helper()
	got, ok := Take(c, st, now, n)
	if want, wanted := taken(c, st, now, n); got != want || ok != wanted {
		t.Errorf("Take(%v, %v, %d, %d) = %v %v, not %v %v", c, st, now, n, got, ok, want, wanted)
	}
}

func waits(t *testing.T, c Conf, st State, now, n int) {
	t.Helper()
	if got, want := Wait(c, st, now, n), waited(c, st, now, n); got != want {
		t.Errorf("Wait(%v, %v, %d, %d) = %d, not %d", c, st, now, n, got, want)
	}
}

func runs(t *testing.T, c Conf, st State, ticks []int) {
	t.Helper()
	given := slices.Clone(ticks)
	got, l := Run(c, st, given)
	want, wanted := gone(c, st, ticks)
	if got != want || !slices.Equal(l, wanted) {
		t.Errorf("Run(%v, %v, %v) = %v %v, not %v %v", c, st, ticks, got, l, want, wanted)
	}
	if !slices.Equal(given, ticks) {
		t.Errorf("Run(%v, %v, %v) has written %v", c, st, ticks, given)
	}
}

// P13.1

func TestCheck(t *testing.T) {
	eachConf(func(c Conf) {
		want := api.ErrRange
		if mayConf(c) {
			want = api.OK
		}
		if e := Check(c); e != want {
			t.Errorf("Check(%v) = %d", c, int(e))
		}
	})
	for n := -3; n < 1010; n++ {
		if ok := Check(Conf{n, 0}) == api.OK; ok != (n >= 1 && n <= 1000) {
			t.Errorf("a Burst of %d: %v", n, ok)
		}
		if ok := Check(Conf{1, n}) == api.OK; ok != (n >= 0 && n <= 1000) {
			t.Errorf("a Rate of %d: %v", n, ok)
		}
	}
}

func TestCheckEdges(t *testing.T) {
	for _, x := range []struct {
		c    Conf
		want api.Errno
	}{
		{Conf{}, api.ErrRange},
		{Conf{-1, 1}, api.ErrRange},
		{Conf{0, 1}, api.ErrRange},
		{Conf{1, 0}, api.OK},
		{Conf{1, 1}, api.OK},
		{Conf{1000, 1000}, api.OK},
		{Conf{1000, 0}, api.OK},
		{Conf{1, 1000}, api.OK},
		{Conf{1001, 1}, api.ErrRange},
		{Conf{1, 1001}, api.ErrRange},
		{Conf{1, -1}, api.ErrRange},
		{Conf{math.MinInt, 1}, api.ErrRange},
		{Conf{math.MaxInt, 1}, api.ErrRange},
		{Conf{1, math.MinInt}, api.ErrRange},
		{Conf{1, math.MaxInt}, api.ErrRange},
	} {
		if e := Check(x.c); e != x.want {
			t.Errorf("Check(%v) = %d, not %d", x.c, int(e), int(x.want))
		}
	}
}

func TestFine(t *testing.T) {
	eachConf(func(c Conf) {
		eachState(c, func(st State) {
			if ok := Fine(c, st); ok != mayState(c, st) {
				t.Errorf("Fine(%v, %v) = %v", c, st, ok)
			}
		})
	})
}

func TestFineEdges(t *testing.T) {
	c := Conf{5, 2}
	for _, x := range []struct {
		st   State
		want bool
	}{
		{State{}, true},
		{State{-1, 0}, false},
		{State{5, 0}, true},
		{State{6, 0}, false},
		{State{0, -1}, false},
		{State{0, 1 << 40}, true},
		{State{5, 1 << 40}, true},
		{State{0, 1<<40 + 1}, false},
		{State{math.MinInt, 0}, false},
		{State{math.MaxInt, 0}, false},
		{State{0, math.MinInt}, false},
		{State{0, math.MaxInt}, false},
	} {
		if ok := Fine(c, x.st); ok != x.want {
			t.Errorf("Fine(%v, %v) = %v", c, x.st, ok)
		}
		for _, c := range []Conf{{0, 2}, {1001, 2}, {5, -1}, {5, 1001}} {
			if Fine(c, x.st) {
				t.Errorf("Fine(%v, %v)", c, x.st)
			}
		}
	}
}

func TestFull(t *testing.T) {
	for _, x := range []struct{ now, at int }{
		{math.MinInt, 0},
		{-1, 0},
		{0, 0},
		{1, 1},
		{1000, 1000},
		{1<<40 - 1, 1<<40 - 1},
		{1 << 40, 1 << 40},
		{1<<40 + 1, 1 << 40},
		{math.MaxInt, 1 << 40},
	} {
		// A conf that may not be has its Burst told, too: Full asks nothing of it.
		eachConf(func(c Conf) {
			st := Full(c, x.now)
			if st != (State{c.Burst, x.at}) {
				t.Errorf("Full(%v, %d) = %v", c, x.now, st)
			}
			if Fine(c, st) != mayConf(c) {
				t.Errorf("Fine of Full(%v, %d): %v", c, x.now, !mayConf(c))
			}
			if mayConf(c) && Level(c, st, x.now) != c.Burst {
				t.Errorf("Level of Full(%v, %d) = %d", c, x.now, Level(c, st, x.now))
			}
		})
	}
}

// P13.2

func TestLevel(t *testing.T) {
	eachConf(func(c Conf) {
		eachState(c, func(st State) {
			for _, now := range ticksOf(c, st) {
				levels(t, c, st, now)
			}
		})
	})
}

func TestLevelEdges(t *testing.T) {
	for _, x := range []struct {
		c               Conf
		st              State
		now, want, wait int
	}{
		// Ticks below At, at it, and just behind it.
		{Conf{10, 3}, State{1, 5}, math.MinInt, 1, 3},
		{Conf{10, 3}, State{1, 5}, -1, 1, 3},
		{Conf{10, 3}, State{1, 5}, 4, 1, 3},
		{Conf{10, 3}, State{1, 5}, 5, 1, 3},
		{Conf{10, 3}, State{1, 5}, 6, 4, 2},
		// One short of Burst, just Burst, and far above it.
		{Conf{10, 3}, State{0, 5}, 8, 9, 1},
		{Conf{10, 3}, State{1, 5}, 8, 10, 0},
		{Conf{10, 3}, State{2, 5}, 8, 10, 0},
		{Conf{10, 3}, State{1, 5}, 1000, 10, 0},
		{Conf{1000, 1000}, State{0, 0}, 1 << 40, 1000, 0},
		{Conf{1000, 1000}, State{1000, 0}, math.MaxInt, 1000, 0},
		{Conf{1, 1000}, State{0, 0}, 1, 1, 0},
		// About the last tick: beyond it no tick brings any.
		{Conf{10, 3}, State{1, 1<<40 - 1}, 1<<40 - 1, 1, 3},
		{Conf{10, 3}, State{1, 1<<40 - 1}, 1 << 40, 4, 2},
		{Conf{10, 3}, State{1, 1<<40 - 1}, 1<<40 + 1, 4, 2},
		{Conf{10, 3}, State{1, 1<<40 - 1}, math.MaxInt, 4, 2},
		{Conf{10, 3}, State{1, 1 << 40}, math.MaxInt, 1, 3},
		{Conf{10, 3}, State{1, 1 << 40}, math.MinInt, 1, 3},
		// A Rate of 0.
		{Conf{10, 0}, State{1, 5}, 1 << 40, 1, -1},
		{Conf{10, 0}, State{10, 5}, 1 << 40, 10, 0},
		// None that is fine.
		{Conf{10, 3}, State{11, 5}, 5, 0, -1},
		{Conf{10, 3}, State{-1, 5}, 1000, 0, -1},
		{Conf{10, 3}, State{1, -1}, 5, 0, -1},
		{Conf{10, 3}, State{1, 1<<40 + 1}, 1 << 40, 0, -1},
		{Conf{0, 3}, State{}, 5, 0, -1},
		{Conf{1001, 3}, State{1, 5}, 5, 0, -1},
		{Conf{10, -1}, State{1, 5}, 5, 0, -1},
		{Conf{10, 1001}, State{1, 5}, 5, 0, -1},
	} {
		if got := Level(x.c, x.st, x.now); got != x.want {
			t.Errorf("Level(%v, %v, %d) = %d, not %d", x.c, x.st, x.now, got, x.want)
		}
		if got := Wait(x.c, x.st, x.now, x.c.Burst); got != x.wait {
			t.Errorf("Wait(%v, %v, %d, %d) = %d, not %d", x.c, x.st, x.now, x.c.Burst, got, x.wait)
		}
	}
}

func TestTake(t *testing.T) {
	eachConf(func(c Conf) {
		eachState(c, func(st State) {
			for _, now := range ticksOf(c, st) {
				for _, n := range numbersOf(c, levelOf(c, st, now)) {
					takes(t, c, st, now, n)
				}
			}
		})
	})
}

func TestTakeEdges(t *testing.T) {
	c, st := Conf{10, 3}, State{1, 5}
	for _, x := range []struct {
		st     State
		now, n int
		want   State
		ok     bool
	}{
		// The level is 7 at the tick 7.
		{st, 7, math.MinInt, st, false},
		{st, 7, -1, st, false},
		{st, 7, 0, State{7, 7}, true},
		{st, 7, 1, State{6, 7}, true},
		{st, 7, 7, State{0, 7}, true},
		{st, 7, 8, st, false},
		{st, 7, 10, st, false},
		{st, 7, 11, st, false},
		{st, 7, math.MaxInt, st, false},
		// Full, and more than full.
		{st, 8, 10, State{0, 8}, true},
		{st, 100, 10, State{0, 100}, true},
		{st, 100, 0, State{10, 100}, true},
		{st, 100, 11, st, false},
		// Ticks that are held.
		{st, 4, 1, State{0, 5}, true},
		{st, 4, 2, st, false},
		{st, math.MinInt, 0, st, true},
		{st, 1<<40 + 1, 4, State{6, 1 << 40}, true},
		{st, math.MaxInt, 10, State{0, 1 << 40}, true},
		{State{1, 1 << 40}, math.MaxInt, 2, State{1, 1 << 40}, false},
		{State{1, 1 << 40}, math.MaxInt, 1, State{0, 1 << 40}, true},
		// None that is fine is told as it is, even for none.
		{State{11, 5}, 5, 0, State{11, 5}, false},
		{State{-1, 5}, 5, 0, State{-1, 5}, false},
		{State{1, -1}, 5, 1, State{1, -1}, false},
		{State{1, 1<<40 + 1}, 5, 1, State{1, 1<<40 + 1}, false},
	} {
		if got, ok := Take(c, x.st, x.now, x.n); got != x.want || ok != x.ok {
			t.Errorf("Take(%v, %v, %d, %d) = %v %v, not %v %v", c, x.st, x.now, x.n, got, ok, x.want, x.ok)
		}
		for _, c := range []Conf{{0, 3}, {1001, 3}, {10, -1}, {10, 1001}} {
			if got, ok := Take(c, x.st, x.now, x.n); got != x.st || ok {
				t.Errorf("Take(%v, %v, %d, %d) = %v %v", c, x.st, x.now, x.n, got, ok)
			}
		}
	}
}

// P13.3

func TestWait(t *testing.T) {
	eachConf(func(c Conf) {
		eachState(c, func(st State) {
			for _, now := range ticksOf(c, st) {
				for _, n := range numbersOf(c, levelOf(c, st, now)) {
					waits(t, c, st, now, n)
				}
			}
		})
	})
}

func TestWaitEdges(t *testing.T) {
	for _, x := range []struct {
		c            Conf
		st           State
		now, n, want int
	}{
		// There already.
		{Conf{10, 3}, State{1, 5}, 5, 0, 0},
		{Conf{10, 3}, State{1, 5}, 5, 1, 0},
		{Conf{10, 3}, State{1, 5}, 8, 10, 0},
		// A whole number of ticks, and not.
		{Conf{10, 3}, State{1, 5}, 5, 2, 1},
		{Conf{10, 3}, State{1, 5}, 5, 3, 1},
		{Conf{10, 3}, State{1, 5}, 5, 4, 1},
		{Conf{10, 3}, State{1, 5}, 5, 5, 2},
		{Conf{10, 3}, State{1, 5}, 5, 7, 2},
		{Conf{10, 3}, State{1, 5}, 5, 8, 3},
		{Conf{10, 3}, State{1, 5}, 6, 7, 1},
		{Conf{1000, 1}, State{0, 0}, 0, 1000, 1000},
		{Conf{1000, 1}, State{0, 0}, 999, 1000, 1},
		{Conf{1000, 1000}, State{0, 0}, 0, 1000, 1},
		{Conf{1000, 999}, State{0, 0}, 0, 1000, 2},
		{Conf{1, 1000}, State{0, 0}, 0, 1, 1},
		// From At on, where the tick is ahead of it.
		{Conf{10, 3}, State{1, 5}, 0, 10, 3},
		{Conf{10, 3}, State{1, 5}, math.MinInt, 10, 3},
		// Ends beyond the last tick.
		{Conf{10, 3}, State{1, 1 << 40}, 1 << 40, 10, 3},
		{Conf{10, 3}, State{1, 1 << 40}, math.MaxInt, 10, 3},
		{Conf{10, 3}, State{1, 1<<40 - 1}, 1<<40 - 1, 10, 3},
		{Conf{10, 3}, State{1, 1<<40 - 1}, math.MaxInt, 10, 2},
		{Conf{1000, 1}, State{0, 1 << 40}, 0, 1000, 1000},
		// Never: more than Burst, a Rate of 0, none that is fine, and below none.
		{Conf{10, 3}, State{10, 5}, 5, 11, -1},
		{Conf{10, 3}, State{1, 5}, 5, math.MaxInt, -1},
		{Conf{10, 0}, State{1, 5}, 5, 2, -1},
		{Conf{10, 0}, State{1, 5}, 1 << 40, 10, -1},
		{Conf{10, 0}, State{0, 5}, 5, 1, -1},
		{Conf{10, 0}, State{10, 5}, 5, 11, -1},
		{Conf{10, 3}, State{11, 5}, 5, 1, -1},
		{Conf{10, 3}, State{-1, 5}, 5, 0, -1},
		{Conf{10, 3}, State{1, -1}, 5, 0, -1},
		{Conf{10, 3}, State{1, 1<<40 + 1}, 5, 1, -1},
		{Conf{0, 3}, State{}, 5, 0, -1},
		{Conf{1001, 3}, State{1, 5}, 5, 1, -1},
		{Conf{10, -1}, State{1, 5}, 5, 1, -1},
		{Conf{10, 1001}, State{1, 5}, 5, 1, -1},
		{Conf{10, 3}, State{1, 5}, 5, -1, -1},
		{Conf{10, 3}, State{1, 5}, 5, math.MinInt, -1},
		// A Rate of 0, and all there.
		{Conf{10, 0}, State{2, 5}, 5, 2, 0},
		{Conf{10, 0}, State{0, 5}, 5, 0, 0},
	} {
		if got := Wait(x.c, x.st, x.now, x.n); got != x.want {
			t.Errorf("Wait(%v, %v, %d, %d) = %d, not %d", x.c, x.st, x.now, x.n, got, x.want)
		}
	}
}

// Who waits as long takes them, and who waits a tick less does not.
func TestWaitIsEnoughAndNotMore(t *testing.T) {
	for burst := 1; burst <= 12; burst++ {
		for rate := 1; rate <= 13; rate++ {
			c := Conf{burst, rate}
			for tokens := range burst + 1 {
				for n := range burst + 1 {
					st, now := State{tokens, 20}, 21
					wait := Wait(c, st, now, n)
					if _, ok := Take(c, st, now+wait, n); wait < 0 || !ok {
						t.Errorf("%v, %v: %d tokens are not there after %d ticks", c, st, n, wait)
					}
					if _, ok := Take(c, st, now+wait-1, n); wait > 0 && ok {
						t.Errorf("%v, %v: %d tokens are there ahead of %d ticks", c, st, n, wait)
					}
				}
			}
		}
	}
}

// P13.4

func TestRun(t *testing.T) {
	for _, ticks := range [][]int{
		nil,
		{},
		{0},
		{5},
		{4, 5, 6},
		{5, 5, 5, 5, 5, 5},
		{6, 5, 4, 3, 2, 1},
		{6, 0, 6, math.MinInt, 7, 6, 8, -1, 9},
		{100, 0, 0, 0, 50, 99, 100, 101},
		{0, 1 << 20, 1 << 39, 1 << 40, 1<<40 + 1, math.MaxInt, 0, math.MinInt},
		{math.MaxInt, math.MaxInt, 5, 6, 1 << 40},
		{math.MinInt, math.MinInt, -1, -1, 0, 1},
		slices.Repeat([]int{7}, 1100),
	} {
		for _, c := range []Conf{{1, 0}, {1, 1}, {2, 1}, {3, 2}, {2, 5}, {7, 0}, {1000, 1000}, {0, 1}, {1001, 1}, {1, -1}, {1, 1001}} {
			eachState(c, func(st State) { runs(t, c, st, ticks) })
		}
	}
}

// All that up to five ticks of a few can be: back, still, and leaps.
func TestRunOfAllTicks(t *testing.T) {
	few := []int{-1, 0, 1, 2, 4, 1 << 40, 1<<40 + 1}
	ahead := [][]int{nil}
	for range 5 {
		var next [][]int
		for _, l := range ahead {
			for _, now := range few {
				next = append(next, append(slices.Clone(l), now))
			}
		}
		for _, l := range next {
			runs(t, Conf{2, 1}, State{1, 1}, l)
			runs(t, Conf{1, 0}, State{1, 0}, l)
			runs(t, Conf{3, 2}, State{0, 1 << 40}, l)
		}
		ahead = next
	}
}

func TestRunOfNoTicks(t *testing.T) {
	for _, st := range []State{{1, 1}, {3, 1}, {-1, 1}, {1, -1}} {
		for _, ticks := range [][]int{nil, {}} {
			if got, l := Run(Conf{2, 1}, st, ticks); got != st || len(l) != 0 {
				t.Errorf("Run = %v %v", got, l)
			}
		}
	}
}

func TestRunOfNoBucket(t *testing.T) {
	for _, st := range []State{{3, 1}, {-1, 1}, {1, -1}, {1, 1<<40 + 1}} {
		if got, l := Run(Conf{2, 1}, st, []int{0, 1, 5}); got != st || !slices.Equal(l, []bool{false, false, false}) {
			t.Errorf("Run of %v = %v %v", st, got, l)
		}
	}
}

// P13.5

func TestMost(t *testing.T) {
	for _, x := range []struct{ n, held int }{
		{math.MinInt, 0},
		{-1, 0},
		{0, 0},
		{1, 1},
		{2, 2},
		{1000, 1000},
		{1<<30 - 1, 1<<30 - 1},
		{1 << 30, 1 << 30},
		{1<<30 + 1, 1 << 30},
		{1 << 40, 1 << 30},
		{math.MaxInt, 1 << 30},
	} {
		eachConf(func(c Conf) {
			want := 0
			if mayConf(c) {
				want = x.held*c.Rate + c.Burst
			}
			if got := Most(c, x.n); got != want {
				t.Errorf("Most(%v, %d) = %d, not %d", c, x.n, got, want)
			}
		})
	}
	if got := Most(Conf{1000, 1000}, 1<<30); got != 1073741825000 {
		t.Errorf("the most of all: %d", got)
	}
	if got := Most(Conf{8, 2}, 3); got != 14 {
		t.Errorf("the most in three ticks: %d", got)
	}
}

func TestSame(t *testing.T) {
	c := Conf{10, 3}
	for _, x := range []struct {
		a, b State
		now  int
		want bool
	}{
		{State{1, 5}, State{1, 5}, 5, true},
		{State{1, 5}, State{2, 5}, 5, false},
		// Of other Tokens and Ats: from the later At on they have the same level.
		{State{1, 5}, State{4, 6}, 4, false},
		{State{1, 5}, State{4, 6}, 5, false},
		{State{1, 5}, State{4, 6}, 6, true},
		{State{1, 5}, State{4, 6}, 7, true},
		{State{1, 5}, State{4, 6}, 1 << 40, true},
		// Ahead of both Ats, and not behind them, till both are full.
		{State{4, 5}, State{4, 6}, 0, true},
		{State{4, 5}, State{4, 6}, 5, true},
		{State{4, 5}, State{4, 6}, 6, false},
		{State{4, 5}, State{4, 6}, 7, false},
		{State{4, 5}, State{4, 6}, 8, true},
		// Both full, and one short of it.
		{State{1, 5}, State{2, 5}, 7, false},
		{State{1, 5}, State{2, 5}, 8, true},
		{State{0, 0}, State{10, 8}, 3, false},
		{State{0, 0}, State{10, 8}, 4, true},
		// Beyond the last tick.
		{State{1, 1<<40 - 1}, State{4, 1 << 40}, math.MaxInt, true},
		{State{1, 1<<40 - 1}, State{7, 1 << 40}, math.MaxInt, false},
		// One or none is fine: the levels, and all that they have, may be the same.
		{State{0, 5}, State{-1, 5}, 5, false},
		{State{0, 5}, State{11, 5}, 5, false},
		{State{0, 5}, State{0, -1}, 5, false},
		{State{0, 5}, State{0, 1<<40 + 1}, 5, false},
		{State{11, 5}, State{11, 5}, 5, false},
		{State{-1, 5}, State{-1, 5}, 5, false},
		{State{1, -1}, State{1, -1}, 5, false},
	} {
		if Same(c, x.a, x.b, x.now) != x.want || Same(c, x.b, x.a, x.now) != x.want {
			t.Errorf("Same(%v, %v, %v, %d) = %v", c, x.a, x.b, x.now, !x.want)
		}
		for _, c := range []Conf{{0, 3}, {1001, 3}, {10, -1}, {10, 1001}} {
			if Same(c, x.a, x.b, x.now) {
				t.Errorf("Same(%v, %v, %v, %d)", c, x.a, x.b, x.now)
			}
		}
	}
}

func TestSameOfAll(t *testing.T) {
	var states []State
	for tokens := -1; tokens <= 5; tokens++ {
		for at := -1; at <= 5; at++ {
			states = append(states, State{tokens, at})
		}
	}
	for rate := range 5 {
		c := Conf{4, rate}
		for _, a := range states {
			for _, b := range states {
				for now := -1; now <= 8; now++ {
					want := mayState(c, a) && mayState(c, b) && levelOf(c, a, now) == levelOf(c, b, now)
					if Same(c, a, b, now) != want {
						t.Errorf("Same(%v, %v, %v, %d) = %v", c, a, b, now, !want)
					}
				}
			}
		}
	}
}

// P13.6

// counts holds the tokens that a bucket gave at each of its ticks, and the ticks as they are held.
type counts struct{ at, many []int }

// bounded holds each stretch of ticks against Most.
func (g counts) bounded(t *testing.T, c Conf) {
	t.Helper()
	for i := range g.at {
		sum := 0
		for j := i; j < len(g.at); j++ {
			sum += g.many[j]
			if ticks := g.at[j] - g.at[i]; sum > Most(c, ticks) {
				t.Errorf("%v: %d are taken from the tick %d on in %d ticks, of %d", c, sum, g.at[i], ticks, Most(c, ticks))
				return
			}
		}
	}
}

// asked takes n at a tick, and sees that none is refused that is there.
func asked(t *testing.T, c Conf, st State, now, n int) (State, int) {
	t.Helper()
	next, ok := Take(c, st, now, n)
	if level := levelOf(c, st, now); ok != (n <= level) {
		t.Errorf("Take(%v, %v, %d, %d) = %v, and %d are there", c, st, now, n, ok, level)
	}
	if !Fine(c, next) {
		t.Errorf("Take(%v, %v, %d, %d) left %v", c, st, now, n, next)
	}
	if !ok {
		return next, 0
	}
	return next, n
}

// All ways to ask none to Burst and one more at each of four ticks, one by one.
func TestNoMoreThanMost(t *testing.T) {
	for burst := 1; burst <= 3; burst++ {
		for rate := range 5 {
			c := Conf{burst, rate}
			ways := burst + 2
			for way := range ways * ways * ways * ways {
				st := Full(c, 0)
				var ticks []int
				for now := range 4 {
					ticks = append(ticks, slices.Repeat([]int{now}, way%ways)...)
					way /= ways
				}
				_, l := Run(c, st, ticks)
				g := counts{at: ticks}
				for i, now := range ticks {
					var got int
					st, got = asked(t, c, st, now, 1)
					if l[i] != (got == 1) {
						t.Errorf("%v, %v: the place %d of Run is %v", c, ticks, i, l[i])
					}
					g.many = append(g.many, got)
				}
				g.bounded(t, c)
			}
		}
	}
}

// Who asks for all at each tick takes just what Most says, where a tick brings no more than there is room for.
func TestMostIsReached(t *testing.T) {
	for burst := 1; burst <= 6; burst++ {
		for rate := range burst + 1 {
			c := Conf{burst, rate}
			st, sum := Full(c, 3), 0
			for n := range 6 {
				for range burst + 1 {
					var got int
					st, got = asked(t, c, st, 3+n, 1)
					sum += got
				}
				if sum != Most(c, n) {
					t.Errorf("%v: %d are taken in %d ticks, of %d", c, sum, n, Most(c, n))
				}
			}
		}
	}
}

func TestRandomWalk(t *testing.T) {
	seed := uint64(13)
	for range 400 {
		c := Conf{1 + draw(&seed, 20), draw(&seed, 8)}
		now := []int{0, 1000, last - 60}[draw(&seed, 3)]
		st := State{draw(&seed, c.Burst+1), now}
		var g counts
		for range 80 {
			now += []int{-3, 0, 0, 0, 1, 1, 2, 9}[draw(&seed, 8)]
			n := draw(&seed, 4)
			levels(t, c, st, now)
			takes(t, c, st, now, n)
			waits(t, c, st, now, draw(&seed, c.Burst+2))
			held := between(st.At, now, last)
			next, got := asked(t, c, st, now, n)
			st = next
			// What is refused moves no At: a tick may then go back, and is held by the At of what was taken alone.
			if got > 0 {
				g.at, g.many = append(g.at, held), append(g.many, got)
			}
		}
		g.bounded(t, c)
	}
}

func TestRandomRuns(t *testing.T) {
	seed := uint64(131)
	for range 1500 {
		c := Conf{draw(&seed, 12), draw(&seed, 6) - 1}
		st := State{draw(&seed, 13) - 1, draw(&seed, 10) - 1}
		ticks := make([]int, draw(&seed, 40))
		now := draw(&seed, 12)
		for i := range ticks {
			now += draw(&seed, 7) - 2
			ticks[i] = now
		}
		runs(t, c, st, ticks)
		cut := draw(&seed, len(ticks)+1)
		half, l := Run(c, st, ticks[:cut])
		half, more := Run(c, half, ticks[cut:])
		if whole, all := Run(c, st, ticks); half != whole || !slices.Equal(append(l, more...), all) {
			t.Errorf("Run(%v, %v, %v) in two: %v, not %v", c, st, ticks, half, whole)
		}
	}
}

// What is told is new memory.

func TestWhatIsToldStays(t *testing.T) {
	spare := []int{0, 0, 0, 1, 7, 8}
	st, l := Run(Conf{2, 1}, State{2, 0}, spare[:4])
	if !slices.Equal(spare, []int{0, 0, 0, 1, 7, 8}) {
		t.Errorf("left %v", spare)
	}
	clear(spare)
	if st != (State{0, 1}) || !slices.Equal(l, []bool{true, true, false, true}) {
		t.Errorf("told %v %v", st, l)
	}
}

func TestAnswersHaveNothingInCommon(t *testing.T) {
	ticks := []int{0, 0, 0, 1}
	_, l := Run(Conf{2, 1}, State{2, 0}, ticks)
	_, other := Run(Conf{2, 1}, State{2, 0}, ticks)
	clear(l[:cap(l)])
	if !slices.Equal(other, []bool{true, true, false, true}) {
		t.Errorf("told %v", other)
	}
}

func TestExample(t *testing.T) {
	c := Conf{Burst: 2, Rate: 1}
	st, l := Run(c, Full(c, 0), []int{0, 0, 0, 1})
	if st != (State{0, 1}) || !slices.Equal(l, []bool{true, true, false, true}) {
		t.Errorf("Run = %v %v", st, l)
	}
}
