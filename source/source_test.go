package source

import (
	"math"
	"slices"
	"testing"

	"callboy/api"
	"callboy/bucket"
)

// lastTick is the last tick that there is.
const lastTick = 1 << 40

// sources are numbers at the ends of what may be, and about them.
var sources = []int{math.MinInt, -65536, -1, 0, 1, 2, 5, 9, 32768, 65534, 65535, 65536, 1 << 32, math.MaxInt}

// may and mayNot are confs at the ends of what may be, and about them.
var (
	may    = []bucket.Conf{{Burst: 1}, {Burst: 1, Rate: 1}, {Burst: 1, Rate: 1000}, {Burst: 2, Rate: 1}, {Burst: 5, Rate: 2}, {Burst: 5}, {Burst: 1000, Rate: 1}, {Burst: 1000, Rate: 1000}, {Burst: 1000}}
	mayNot = []bucket.Conf{{}, {Rate: 1}, {Burst: -1, Rate: 1}, {Burst: 1001, Rate: 1}, {Burst: 1, Rate: -1}, {Burst: 1, Rate: 1001}, {Burst: math.MinInt}, {Burst: math.MaxInt}, {Burst: 1, Rate: math.MinInt}, {Burst: 1, Rate: math.MaxInt}}
)

// between tells the one of two ends that a number is beyond, or the number.
func between(least, n, most int) int {
	if n < least {
		return least
	}
	if n > most {
		return most
	}
	return n
}

// What the calls should tell, in the test's own words.

func mayConf(c bucket.Conf) bool {
	return 0 < c.Burst && c.Burst < 1001 && -1 < c.Rate && c.Rate < 1001
}

func mayBucket(c bucket.Conf, b bucket.State) bool {
	return !(b.Tokens < 0 || c.Burst < b.Tokens || b.At < 0 || lastTick < b.At)
}

func maySource(source int) bool { return -1 < source && source < 65536 }

// checked tells what Check should.
func checked(c bucket.Conf, st State) api.Errno {
	if !mayConf(c) {
		return api.ErrRange
	}
	if len(st) > 8 {
		return api.ErrLong
	}
	for _, x := range st {
		if !maySource(x.Source) || !mayBucket(c, x.B) {
			return api.ErrRange
		}
	}
	for i, x := range st {
		for _, behind := range st[i+1:] {
			if behind.Source <= x.Source {
				return api.ErrOrder
			}
		}
	}
	return api.OK
}

// there tells how many tokens a bucket has that may be.
func there(c bucket.Conf, b bucket.State, now int) int {
	n := b.Tokens + c.Rate*(between(b.At, now, lastTick)-b.At)
	if n > c.Burst {
		return c.Burst
	}
	return n
}

// cleaned tells what Clean should.
func cleaned(c bucket.Conf, st State, now int) State {
	if checked(c, st) != api.OK {
		return st
	}
	var left State
	for _, x := range st {
		if there(c, x.B, now) < c.Burst {
			left = append(left, x)
		}
	}
	return left
}

// taken tells what Take should: it counts in a map, and lays the state anew.
func taken(c bucket.Conf, st State, source, now int) (State, api.Errno) {
	if e := checked(c, st); e != api.OK {
		return st, e
	}
	if !maySource(source) {
		return st, api.ErrArg
	}
	left := cleaned(c, st, now)
	m := map[int]bucket.State{}
	for _, x := range left {
		m[x.Source] = x.B
	}
	b, has := m[source]
	if !has && len(m) == 8 {
		return left, api.ErrFull
	}
	if !has {
		b = bucket.State{Tokens: c.Burst, At: between(0, now, lastTick)}
	}
	n := there(c, b, now)
	if n == 0 {
		return left, api.ErrSpent
	}
	m[source] = bucket.State{Tokens: n - 1, At: between(b.At, now, lastTick)}
	var l []int
	for source := range m {
		l = append(l, source)
	}
	slices.Sort(l)
	var next State
	for _, source := range l {
		next = append(next, Entry{source, m[source]})
	}
	return next, api.OK
}

// levelOf tells what Level should.
func levelOf(c bucket.Conf, st State, source, now int) int {
	if checked(c, st) != api.OK || !maySource(source) {
		return 0
	}
	for _, x := range st {
		if x.Source == source {
			return there(c, x.B, now)
		}
	}
	return c.Burst
}

// waited tells what Wait should: of one token, so it waits for one tick, or for ever.
func waited(c bucket.Conf, st State, source, now int) int {
	switch {
	case checked(c, st) != api.OK || !maySource(source):
		return -1
	case levelOf(c, st, source, now) > 0:
		return 0
	case c.Rate == 0:
		return -1
	}
	return 1
}

// States that the calls are asked with.

// fine and wrong are buckets at the ends of what may be, and about them.
func fine(c bucket.Conf) []bucket.State {
	return []bucket.State{{}, {Tokens: c.Burst}, {Tokens: c.Burst - 1, At: 5}, {Tokens: c.Burst, At: 7}, {At: 6}, {At: lastTick}, {Tokens: c.Burst, At: lastTick}, {Tokens: c.Burst / 2, At: lastTick - 1}}
}

func wrong(c bucket.Conf) []bucket.State {
	return []bucket.State{{Tokens: -1}, {Tokens: c.Burst + 1, At: 3}, {At: -1}, {At: lastTick + 1}, {Tokens: math.MinInt}, {Tokens: math.MaxInt}, {At: math.MinInt}, {At: math.MaxInt}, {Tokens: -1, At: -1}}
}

// ticks are ticks at the ends of what may be, and about them, and some by which buckets are full.
var ticks = []int{math.MinInt, -1, 0, 1, 4, 5, 6, 7, 8, 9, 1000, 1006, lastTick - 1, lastTick, lastTick + 1, math.MaxInt}

// of tells a state of sources, each with a bucket of a list, over and over.
func of(buckets []bucket.State, sources ...int) State {
	var st State
	for i, source := range sources {
		st = append(st, Entry{source, buckets[i%len(buckets)]})
	}
	return st
}

// rising tells so many sources from one on, each by a step.
func rising(from, step, many int) []int {
	var l []int
	for i := range many {
		l = append(l, from+i*step)
	}
	return l
}

// states tells states that may be, and that may not, of few entries and of many.
func states(c bucket.Conf) []State {
	good, bad := fine(c), wrong(c)
	l := []State{nil, {}}
	for _, source := range sources {
		for _, b := range slices.Concat(good, bad) {
			l = append(l, State{{source, b}})
		}
		for i, other := range sources {
			l = append(l, of(good[i%6:], source, other))
		}
	}
	l = append(l, of(good, rising(0, 9, 100)...), of(bad, rising(0, 9, 100)...), of(good, slices.Repeat([]int{5}, 100)...))
	for _, many := range []int{3, 7, 8, 9} {
		up := rising(0, 9, many)
		down := slices.Clone(up)
		slices.Reverse(down)
		still := slices.Clone(up)
		still[many-1] = still[many-2]
		far := slices.Clone(up)
		far[many-1] = 65535
		beyond := slices.Clone(up)
		beyond[many-1] = 65536
		for _, l2 := range [][]int{up, down, still, far, beyond, rising(-1, 9, many), slices.Repeat([]int{5}, many)} {
			l = append(l, of(good, l2...), of(good[4:], l2...), of(good[:1], l2...), of(good[1:2], l2...))
			for _, at := range []int{0, many / 2, many - 1} {
				worse := of(good, l2...)
				worse[at].B = bad[at%len(bad)]
				l = append(l, worse)
			}
		}
	}
	return l
}

// eachState calls with all confs, and with all states of each.
func eachState(call func(c bucket.Conf, st State)) {
	for _, c := range slices.Concat(may, mayNot) {
		for _, st := range states(c) {
			call(c, st)
		}
	}
}

// draw tells a number below another one, by the seed.
func draw(seed *uint64, below int) int {
	*seed = *seed*6364136223846793005 + 1442695040888963407
	return int(*seed >> 33 % uint64(below))
}

// The calls, held against what they should tell. Each is handed a copy of the state in the midst of a list: it leaves the whole list as it is, and what it told stays when the list is written over.

// mark stands about what is handed in.
var mark = Entry{77, bucket.State{Tokens: 77, At: 77}}

// lent is a state that is handed in.
type lent struct {
	list State
	st   State
}

func lend(st State) lent {
	list := slices.Concat(State{mark}, st, State{mark, mark})
	return lent{list, list[1 : 1+len(st)]}
}

// back sees that nothing was written, and writes all over.
func (x lent) back(t *testing.T, st State, call string) {
	t.Helper()
	if !slices.Equal(x.list, slices.Concat(State{mark}, st, State{mark, mark})) {
		t.Errorf("%s of %v has written %v", call, st, x.list)
	}
	scrawl(x.list)
}

func scrawl(st State) {
	st = st[:cap(st)]
	for i := range st {
		st[i] = Entry{-9, bucket.State{Tokens: -9, At: -9}}
	}
}

func checks(t *testing.T, c bucket.Conf, st State) {
	t.Helper()
	x := lend(st)
	if got, want := Check(c, x.st), checked(c, st); got != want {
		t.Errorf("Check(%v, %v) = %d, not %d", c, st, int(got), int(want))
	}
	x.back(t, st, "Check")
}

func cleans(t *testing.T, c bucket.Conf, st State, now int) {
	t.Helper()
	x := lend(st)
	got := Clean(c, x.st, now)
	x.back(t, st, "Clean")
	if want := cleaned(c, st, now); !slices.Equal(got, want) {
		t.Errorf("Clean(%v, %v, %d) = %v, not %v", c, st, now, got, want)
	}
}

func takes(t *testing.T, c bucket.Conf, st State, source, now int) {
	t.Helper()
	x := lend(st)
	got, e := Take(c, x.st, source, now)
	x.back(t, st, "Take")
	want, wanted := taken(c, st, source, now)
	if e != wanted || !slices.Equal(got, want) {
		t.Errorf("Take(%v, %v, %d, %d) = %v %d, not %v %d", c, st, source, now, got, int(e), want, int(wanted))
	}
	if checked(c, st) == api.OK && Check(c, got) != api.OK {
		t.Errorf("Take(%v, %v, %d, %d) leaves %v", c, st, source, now, got)
	}
}

func levels(t *testing.T, c bucket.Conf, st State, source, now int) {
	t.Helper()
	x := lend(st)
	if got, want := Level(c, x.st, source, now), levelOf(c, st, source, now); got != want {
		t.Errorf("Level(%v, %v, %d, %d) = %d, not %d", c, st, source, now, got, want)
	}
	x.back(t, st, "Level")
}

func waits(t *testing.T, c bucket.Conf, st State, source, now int) {
	t.Helper()
	x := lend(st)
	if got, want := Wait(c, x.st, source, now), waited(c, st, source, now); got != want {
		t.Errorf("Wait(%v, %v, %d, %d) = %d, not %d", c, st, source, now, got, want)
	}
	x.back(t, st, "Wait")
}

func tells(t *testing.T, st State) {
	t.Helper()
	x := lend(st)
	got := Sources(x.st)
	x.back(t, st, "Sources")
	if len(got) != len(st) {
		t.Fatalf("Sources(%v) = %v", st, got)
	}
	for i := range st {
		if got[i] != st[i].Source {
			t.Errorf("Sources(%v) = %v", st, got)
		}
	}
}

func sames(t *testing.T, a, b State, want bool) {
	t.Helper()
	x, y := lend(a), lend(b)
	if got := Same(x.st, y.st); got != want {
		t.Errorf("Same(%v, %v) = %v", a, b, got)
	}
	if got := Same(y.st, x.st); got != want {
		t.Errorf("Same(%v, %v) = %v", b, a, got)
	}
	x.back(t, a, "Same")
	y.back(t, b, "Same")
}

// all holds every call that asks at a tick.
func all(t *testing.T, c bucket.Conf, st State, source, now int) {
	t.Helper()
	takes(t, c, st, source, now)
	levels(t, c, st, source, now)
	waits(t, c, st, source, now)
}

// P14.1

func TestCheck(t *testing.T) {
	eachState(func(c bucket.Conf, st State) { checks(t, c, st) })
}

func TestCheckEdges(t *testing.T) {
	c := bucket.Conf{Burst: 5, Rate: 2}
	ok, many, few := bucket.State{Tokens: 3, At: 9}, bucket.State{Tokens: 6}, bucket.State{Tokens: -1}
	set := func(st State, at int, x Entry) State {
		st[at] = x
		return st
	}
	one := func(source int, b bucket.State) State { return State{{source, b}} }
	eight := func() State { return of([]bucket.State{ok}, rising(0, 1, 8)...) }
	nine := func() State { return of([]bucket.State{ok}, rising(0, 1, 9)...) }
	for _, x := range []struct {
		what string
		st   State
		want api.Errno
	}{
		{"no entries", nil, api.OK},
		{"MaxSources", eight(), api.OK},
		{"one more", nine(), api.ErrLong},
		{"a source of 0", one(0, ok), api.OK},
		{"a source of 65535", one(65535, ok), api.OK},
		{"a source of -1", one(-1, ok), api.ErrRange},
		{"a source of 65536", one(65536, ok), api.ErrRange},
		{"the least source", one(math.MinInt, ok), api.ErrRange},
		{"the greatest source", one(math.MaxInt, ok), api.ErrRange},
		{"the ends", of([]bucket.State{ok}, 0, 65535), api.OK},
		{"no tokens", one(1, bucket.State{}), api.OK},
		{"a full bucket", one(1, bucket.State{Tokens: 5}), api.OK},
		{"too many tokens", one(1, many), api.ErrRange},
		{"too few tokens", one(1, few), api.ErrRange},
		{"a tick below 0", one(1, bucket.State{At: -1}), api.ErrRange},
		{"the last tick", one(1, bucket.State{At: 1 << 40}), api.OK},
		{"a tick beyond the last", one(1, bucket.State{At: 1<<40 + 1}), api.ErrRange},
		{"sources that stand still", of([]bucket.State{ok}, 4, 4), api.ErrOrder},
		{"sources that fall", of([]bucket.State{ok}, 4, 3), api.ErrOrder},
		{"the last ones stand still", set(eight(), 7, Entry{6, ok}), api.ErrOrder},
		{"the first ones fall", set(eight(), 0, Entry{2, ok}), api.ErrOrder},
		{"too many, and a wrong source", set(nine(), 8, Entry{-1, ok}), api.ErrLong},
		{"too many, and a wrong bucket", set(nine(), 0, Entry{0, many}), api.ErrLong},
		{"too many, and they fall", set(nine(), 3, Entry{8, ok}), api.ErrLong},
		{"all three", set(set(nine(), 0, Entry{-1, ok}), 8, Entry{0, many}), api.ErrLong},
		{"a wrong source that falls", of([]bucket.State{ok}, 4, -1), api.ErrRange},
		{"a wrong source that stands still", of([]bucket.State{ok}, 65536, 65536), api.ErrRange},
		{"they fall ahead of a wrong source", of([]bucket.State{ok}, 4, 3, 65536), api.ErrRange},
		{"they fall ahead of a wrong bucket", of([]bucket.State{ok, ok, many}, 4, 3, 5), api.ErrRange},
		{"they fall behind a wrong bucket", of([]bucket.State{few, ok, ok}, 1, 4, 3), api.ErrRange},
	} {
		if e := Check(c, x.st); e != x.want {
			t.Errorf("%s: Check = %d, not %d", x.what, int(e), int(x.want))
		}
		// The conf's error is named first.
		for _, c := range mayNot {
			if e := Check(c, x.st); e != bucket.Check(c) || e == api.OK {
				t.Errorf("%s: Check of %v = %d", x.what, c, int(e))
			}
		}
	}
}

func TestCheckOfEachSource(t *testing.T) {
	c := bucket.Conf{Burst: 1}
	for source := -3; source < 65540; source++ {
		if ok := Check(c, State{{Source: source}}) == api.OK; ok != (source >= 0 && source <= 65535) {
			t.Errorf("a source of %d: %v", source, ok)
		}
	}
}

func TestSources(t *testing.T) {
	for _, st := range states(may[3]) {
		tells(t, st)
	}
	st := of(fine(may[0]), 0, 3, 7, 65535)
	if l := Sources(st); !slices.Equal(l, []int{0, 3, 7, 65535}) {
		t.Errorf("Sources(%v) = %v", st, l)
	}
	if l := Sources(nil); len(l) != 0 {
		t.Errorf("Sources of none = %v", l)
	}
}

func TestSame(t *testing.T) {
	for _, st := range states(may[3]) {
		sames(t, st, st, true)
		sames(t, st, append(slices.Clone(st), mark), false)
		for at := range st {
			for _, change := range []func(x *Entry){
				func(x *Entry) { x.Source++ },
				func(x *Entry) { x.B.Tokens++ },
				func(x *Entry) { x.B.At++ },
			} {
				other := slices.Clone(st)
				change(&other[at])
				sames(t, st, other, false)
			}
		}
	}
	sames(t, nil, State{}, true)
}

func TestSameEdges(t *testing.T) {
	st := State{{1, bucket.State{Tokens: 2, At: 3}}, {4, bucket.State{Tokens: 5, At: 6}}}
	for _, x := range []struct {
		what  string
		other State
		want  bool
	}{
		{"the same", State{{1, bucket.State{Tokens: 2, At: 3}}, {4, bucket.State{Tokens: 5, At: 6}}}, true},
		{"a source", State{{1, bucket.State{Tokens: 2, At: 3}}, {5, bucket.State{Tokens: 5, At: 6}}}, false},
		{"Tokens", State{{1, bucket.State{Tokens: 1, At: 3}}, {4, bucket.State{Tokens: 5, At: 6}}}, false},
		{"At", State{{1, bucket.State{Tokens: 2, At: 3}}, {4, bucket.State{Tokens: 5, At: 7}}}, false},
		{"how many", st[:1], false},
		{"none", nil, false},
		{"turned round", State{st[1], st[0]}, false},
	} {
		sames(t, st, x.other, x.want)
	}
}

// P14.2

func TestClean(t *testing.T) {
	eachState(func(c bucket.Conf, st State) {
		for _, now := range ticks {
			cleans(t, c, st, now)
		}
	})
}

// Each way in which some of eight are full at a tick.
func TestCleanOfEachWay(t *testing.T) {
	c := bucket.Conf{Burst: 4, Rate: 2}
	for many := range 9 {
		for way := range 1 << many {
			var st, left State
			for i := range many {
				x := Entry{10 * i, bucket.State{Tokens: 1, At: 100 + i%2}}
				if way>>i&1 == 1 {
					x.B.Tokens = 2
					x.B.At = 99 + i%2
				} else {
					left = append(left, x)
				}
				st = append(st, x)
			}
			if got := Clean(c, st, 101); !Same(got, left) {
				t.Errorf("Clean(%v, %v, 101) = %v, not %v", c, st, got, left)
			}
			cleans(t, c, st, 101)
			for _, source := range []int{-1, 0, 5, 10, 70, 71} {
				all(t, c, st, source, 101)
			}
		}
	}
}

func TestCleanEdges(t *testing.T) {
	c, dry := bucket.Conf{Burst: 5, Rate: 2}, bucket.Conf{Burst: 5}
	empty := State{{3, bucket.State{At: 10}}}
	full := State{{3, bucket.State{Tokens: 5, At: 10}}}
	for _, x := range []struct {
		what string
		c    bucket.Conf
		st   State
		now  int
		left int
	}{
		{"a tick below At", c, empty, 9, 1},
		{"a tick below 0", c, empty, math.MinInt, 1},
		{"one tick ahead of full", c, empty, 12, 1},
		{"just full", c, empty, 13, 0},
		{"long full", c, empty, 1 << 39, 0},
		{"beyond the last tick", c, empty, math.MaxInt, 0},
		{"full, and a tick below At", c, full, 9, 0},
		{"full, and a tick below 0", c, full, -1, 0},
		{"full at At", c, full, 10, 0},
		{"one that never comes back", dry, empty, math.MaxInt, 1},
		{"full, of a Rate of 0", dry, full, 10, 0},
		{"beyond the last tick, and it is held", c, State{{3, bucket.State{At: lastTick - 2}}}, math.MaxInt, 1},
		{"just full at the last tick", c, State{{3, bucket.State{At: lastTick - 3}}}, math.MaxInt, 0},
	} {
		if got := Clean(x.c, x.st, x.now); len(got) != x.left || x.left == 1 && got[0] != x.st[0] {
			t.Errorf("%s: Clean(%v, %v, %d) = %v", x.what, x.c, x.st, x.now, got)
		}
	}
	// What Check refuses has nothing taken out, though there are full ones.
	for _, st := range []State{of(full2(5), 4, 3), of(full2(5), 3, 3), of(full2(5), rising(0, 1, 9)...), of(full2(5), -1, 3), of(full2(5), 3, 65536), {full[0], {5, bucket.State{Tokens: 6}}}} {
		if got := Clean(c, st, 20); !slices.Equal(got, st) {
			t.Errorf("Clean(%v, %v, 20) = %v", c, st, got)
		}
	}
	for _, c := range mayNot {
		if got := Clean(c, full, 20); !slices.Equal(got, full) {
			t.Errorf("Clean(%v, %v, 20) = %v", c, full, got)
		}
	}
}

// full2 tells two buckets of which both are full.
func full2(burst int) []bucket.State {
	return []bucket.State{{Tokens: burst}, {Tokens: burst, At: 10}}
}

// P14.3

func TestTake(t *testing.T) {
	n := 0
	eachState(func(c bucket.Conf, st State) {
		n++
		for i, now := range ticks {
			takes(t, c, st, sources[(n+i)%len(sources)], now)
		}
	})
}

func TestTakeEdges(t *testing.T) {
	c := bucket.Conf{Burst: 3, Rate: 1}
	spent, one, full := bucket.State{At: 10}, bucket.State{Tokens: 1, At: 10}, bucket.State{Tokens: 2, At: 9}
	st := State{{10, one}, {20, spent}, {30, one}}
	fresh := bucket.State{Tokens: 2, At: 10}
	for _, x := range []struct {
		what   string
		st     State
		source int
		now    int
		want   State
		e      api.Errno
	}{
		{"of none", nil, 7, 10, State{{7, fresh}}, api.OK},
		{"ahead of the others", st, 0, 10, State{{0, fresh}, {10, one}, {20, spent}, {30, one}}, api.OK},
		{"between the others", st, 15, 10, State{{10, one}, {15, fresh}, {20, spent}, {30, one}}, api.OK},
		{"behind the others", st, 65535, 10, State{{10, one}, {20, spent}, {30, one}, {65535, fresh}}, api.OK},
		{"the first one", st, 10, 10, State{{10, spent}, {20, spent}, {30, one}}, api.OK},
		{"the last one", st, 30, 10, State{{10, one}, {20, spent}, {30, spent}}, api.OK},
		{"no token", st, 20, 10, st, api.ErrSpent},
		{"no token at a tick below At", st, 20, -5, st, api.ErrSpent},
		{"a token at a tick below At", st, 10, 3, State{{10, spent}, {20, spent}, {30, one}}, api.OK},
		{"a token that came back", st, 20, 11, State{{10, one}, {20, bucket.State{At: 11}}, {30, one}}, api.OK},
		{"its bucket is full", State{{10, full}, {20, spent}}, 10, 10, State{{10, fresh}, {20, spent}}, api.OK},
		{"its bucket is full, and has a later At", State{{10, bucket.State{Tokens: 3, At: 50}}}, 10, 10, State{{10, fresh}}, api.OK},
		{"another one is full", State{{10, full}, {20, one}}, 20, 10, State{{20, spent}}, api.OK},
		{"others are full, and it has no token", State{{10, full}, {20, spent}, {30, full}}, 20, 10, State{{20, spent}}, api.ErrSpent},
		{"all are full", State{{10, full}, {20, full}}, 20, 10, State{{20, fresh}}, api.OK},
		{"all are full but the new one", State{{10, full}, {20, full}}, 15, 10, State{{15, fresh}}, api.OK},
		{"a source of -1", State{{10, full}, {20, one}}, -1, 10, State{{10, full}, {20, one}}, api.ErrArg},
		{"a source of 65536", State{{10, full}, {20, one}}, 65536, 10, State{{10, full}, {20, one}}, api.ErrArg},
		{"the least source", st, math.MinInt, 10, st, api.ErrArg},
		{"the greatest source", st, math.MaxInt, 10, st, api.ErrArg},
		{"a tick below 0", nil, 7, -1, State{{7, bucket.State{Tokens: 2}}}, api.OK},
		{"a tick beyond the last", nil, 7, math.MaxInt, State{{7, bucket.State{Tokens: 2, At: 1 << 40}}}, api.OK},
	} {
		got, e := Take(c, x.st, x.source, x.now)
		if e != x.e || !slices.Equal(got, x.want) {
			t.Errorf("%s: Take = %v %d, not %v %d", x.what, got, int(e), x.want, int(x.e))
		}
		takes(t, c, x.st, x.source, x.now)
	}
}

func TestTakeOfManySources(t *testing.T) {
	c := bucket.Conf{Burst: 3, Rate: 1}
	spent, full := bucket.State{At: 10}, bucket.State{Tokens: 2, At: 9}
	fresh := bucket.State{Tokens: 2, At: 10}
	eight := of([]bucket.State{spent}, rising(10, 10, 8)...)
	for _, source := range []int{0, 9, 11, 45, 79, 81, 65535} {
		if got, e := Take(c, eight, source, 10); e != api.ErrFull || !Same(got, eight) {
			t.Errorf("Take of %d of eight others = %v %d", source, got, int(e))
		}
		// One of them is full at that tick: there is room, and it is gone.
		for at := range eight {
			st := slices.Clone(eight)
			st[at].B = full
			got, e := Take(c, st, source, 10)
			if e != api.OK || len(got) != 8 || slices.Contains(Sources(got), st[at].Source) || !slices.Contains(got, Entry{source, fresh}) {
				t.Errorf("Take of %d of seven others and a full one = %v %d", source, got, int(e))
			}
			takes(t, c, st, source, 10)
			takes(t, c, st, source, 9)
		}
	}
	for _, x := range eight {
		if got, e := Take(c, eight, x.Source, 10); e != api.ErrSpent || !Same(got, eight) {
			t.Errorf("Take of %d of eight = %v %d", x.Source, got, int(e))
		}
		if got, e := Take(c, eight, x.Source, 11); e != api.OK || len(got) != 8 {
			t.Errorf("Take of %d of eight a tick later = %v %d", x.Source, got, int(e))
		}
	}
	// A source that may not be is told ahead of too many of them.
	for _, source := range []int{-1, 65536} {
		if got, e := Take(c, eight, source, 10); e != api.ErrArg || !Same(got, eight) {
			t.Errorf("Take of %d of eight = %v %d", source, got, int(e))
		}
	}
	// Seven and a new one are just as many as there may be.
	if got, e := Take(c, eight[:7], 80, 10); e != api.OK || len(got) != 8 {
		t.Errorf("Take of the eighth = %v %d", got, int(e))
	}
}

func TestTakeOfNoState(t *testing.T) {
	c := bucket.Conf{Burst: 3, Rate: 1}
	full := full2(3)
	for _, x := range []struct {
		what string
		c    bucket.Conf
		st   State
		e    api.Errno
	}{
		{"a conf", bucket.Conf{}, of(full, 1, 2), api.ErrRange},
		{"too many", c, of(full, rising(0, 1, 9)...), api.ErrLong},
		{"a source", c, of(full, 1, 65536), api.ErrRange},
		{"a bucket", c, State{{1, full[0]}, {2, bucket.State{Tokens: 4}}}, api.ErrRange},
		{"they stand still", c, of(full, 2, 2), api.ErrOrder},
		{"they fall", c, of(full, 2, 1), api.ErrOrder},
	} {
		for _, source := range []int{-1, 0, 1, 2, 65535, 65536} {
			if got, e := Take(x.c, x.st, source, 20); e != x.e || !slices.Equal(got, x.st) {
				t.Errorf("%s: Take of %d = %v %d", x.what, source, got, int(e))
			}
		}
	}
}

func TestTakeOfTheLeast(t *testing.T) {
	// A Burst of 1 and a Rate of 0: each source is let in once, and none goes.
	c := bucket.Conf{Burst: 1}
	var st State
	for source := range 8 {
		var e api.Errno
		if st, e = Take(c, st, source, source); e != api.OK {
			t.Errorf("Take of %d = %v %d", source, st, int(e))
		}
		if _, e = Take(c, st, source, math.MaxInt); e != api.ErrSpent {
			t.Errorf("Take of %d anew = %d", source, int(e))
		}
	}
	if got, e := Take(c, st, 8, math.MaxInt); e != api.ErrFull || !Same(got, st) || len(st) != 8 {
		t.Errorf("Take of the ninth = %v %d", got, int(e))
	}
}

// P14.4

func TestLevelAndWait(t *testing.T) {
	n := 0
	eachState(func(c bucket.Conf, st State) {
		n++
		for i, now := range ticks {
			levels(t, c, st, sources[(n+i)%len(sources)], now)
			waits(t, c, st, sources[(n+i)%len(sources)], now)
		}
	})
}

func TestLevelAndWaitEdges(t *testing.T) {
	c, dry := bucket.Conf{Burst: 3, Rate: 2}, bucket.Conf{Burst: 3}
	st := State{{10, bucket.State{At: 5}}, {20, bucket.State{Tokens: 2, At: 5}}, {30, bucket.State{Tokens: 3, At: 5}}}
	for _, x := range []struct {
		what             string
		c                bucket.Conf
		st               State
		source, now      int
		wantLevel, waits int
	}{
		{"no token", c, st, 10, 5, 0, 1},
		{"no token at a tick below At", c, st, 10, 0, 0, 1},
		{"no token at a tick below 0", c, st, 10, -7, 0, 1},
		{"a tick later", c, st, 10, 6, 2, 0},
		{"full again", c, st, 10, 7, 3, 0},
		{"beyond the last tick", c, st, 10, math.MaxInt, 3, 0},
		{"two tokens", c, st, 20, 5, 2, 0},
		{"a full one that has an entry", c, st, 30, 5, 3, 0},
		{"ahead of the others", c, st, 0, 5, 3, 0},
		{"between the others", c, st, 15, 5, 3, 0},
		{"behind the others", c, st, 65535, 5, 3, 0},
		{"of none", c, nil, 7, -1, 3, 0},
		{"of none, beyond the last tick", c, nil, 7, math.MaxInt, 3, 0},
		{"a source of -1", c, st, -1, 5, 0, -1},
		{"a source of 65536", c, st, 65536, 5, 0, -1},
		{"the least source", c, st, math.MinInt, 5, 0, -1},
		{"the greatest source", c, st, math.MaxInt, 5, 0, -1},
		{"a Rate of 0", dry, st, 10, 9, 0, -1},
		{"a Rate of 0, and two tokens", dry, st, 20, 9, 2, 0},
		{"a Rate of 0, and no entry", dry, st, 15, 9, 3, 0},
		{"a conf that may not be", bucket.Conf{Burst: 1001, Rate: 1}, st, 20, 5, 0, -1},
		{"a conf that may not be, and none", bucket.Conf{Burst: 3, Rate: -1}, nil, 20, 5, 0, -1},
		{"sources that fall", c, State{st[1], st[0]}, 20, 5, 0, -1},
		{"sources that stand still", c, State{st[1], st[1]}, 20, 5, 0, -1},
		{"a wrong bucket besides", c, State{st[1], {30, bucket.State{Tokens: 4}}}, 20, 5, 0, -1},
		{"a wrong source besides", c, State{st[1], {65536, bucket.State{}}}, 20, 5, 0, -1},
		{"too many", c, of([]bucket.State{{Tokens: 2}}, rising(20, 1, 9)...), 20, 5, 0, -1},
		{"too many, and no entry", c, of([]bucket.State{{Tokens: 2}}, rising(20, 1, 9)...), 0, 5, 0, -1},
		// One that Take would tell ErrFull of has its tokens all the same.
		{"eight others", c, of([]bucket.State{{}}, rising(20, 1, 8)...), 0, 0, 3, 0},
	} {
		if n := Level(x.c, x.st, x.source, x.now); n != x.wantLevel {
			t.Errorf("%s: Level = %d, not %d", x.what, n, x.wantLevel)
		}
		if n := Wait(x.c, x.st, x.source, x.now); n != x.waits {
			t.Errorf("%s: Wait = %d, not %d", x.what, n, x.waits)
		}
	}
}

// All lists of up to three entries, of few sources and buckets, asked for all sources.
func TestAllOfFew(t *testing.T) {
	var entries []Entry
	for _, source := range []int{-1, 0, 1, 65535} {
		for _, b := range []bucket.State{{}, {Tokens: 1, At: 1}, {Tokens: 2, At: 2}, {Tokens: 3}} {
			entries = append(entries, Entry{source, b})
		}
	}
	lists := []State{nil}
	for from := 0; from < len(lists); from++ {
		st := lists[from]
		c := bucket.Conf{Burst: 2, Rate: from % 3}
		checks(t, c, st)
		tells(t, st)
		for now := range 3 {
			cleans(t, c, st, now)
			all(t, c, st, []int{-1, 0, 1, 2, 65535}[(from+now)%5], now)
		}
		if len(st) < 3 {
			for _, x := range entries {
				lists = append(lists, append(slices.Clone(st), x))
			}
		}
	}
	if len(lists) != 1+16+16*16+16*16*16 {
		t.Errorf("%d lists", len(lists))
	}
}

// P14.5

// counts holds the ticks at which tokens of each source were taken.
type counts map[int][]int

// bounded holds each stretch of ticks of each source against what bucket's Most says.
func (g counts) bounded(t *testing.T, c bucket.Conf) {
	t.Helper()
	for source, l := range g {
		for i := range l {
			for j := i; j < len(l); j++ {
				if most := bucket.Most(c, l[j]-l[i]); j-i+1 > most {
					t.Errorf("%v: %d are taken of %d from the tick %d on in %d ticks, of %d", c, j-i+1, source, l[i], l[j]-l[i], most)
					return
				}
			}
		}
	}
}

// plain are buckets of their own, one for each source, that know nothing of one another.
type plain map[int]bucket.State

func (p plain) of(c bucket.Conf, source, now int) bucket.State {
	if b, has := p[source]; has {
		return b
	}
	return bucket.Full(c, now)
}

// crowd tells how many other sources have a bucket that is not full at a tick.
func (p plain) crowd(c bucket.Conf, source, now int) int {
	n := 0
	for other, b := range p {
		if other != source && bucket.Level(c, b, now) < c.Burst {
			n++
		}
	}
	return n
}

// alike holds a Take, and what Level and Wait tell ahead of it, against the source's own bucket. Ticks do not go back here.
func alike(t *testing.T, c bucket.Conf, st State, p plain, source, now int) (State, bool) {
	t.Helper()
	b := p.of(c, source, now)
	if n := Level(c, st, source, now); n != bucket.Level(c, b, now) {
		t.Errorf("Level(%v, %v, %d, %d) = %d, and alone %d", c, st, source, now, n, bucket.Level(c, b, now))
	}
	if n := Wait(c, st, source, now); n != bucket.Wait(c, b, now, 1) {
		t.Errorf("Wait(%v, %v, %d, %d) = %d, and alone %d", c, st, source, now, n, bucket.Wait(c, b, now, 1))
	}
	next, e := Take(c, st, source, now)
	if bucket.Level(c, b, now) == c.Burst && p.crowd(c, source, now) >= 8 {
		if e != api.ErrFull {
			t.Errorf("Take(%v, %v, %d, %d) = %d, of eight others", c, st, source, now, int(e))
		}
		return next, false
	}
	left, ok := bucket.Take(c, b, now, 1)
	want := api.OK
	if !ok {
		want = api.ErrSpent
	}
	if e != want {
		t.Errorf("Take(%v, %v, %d, %d) = %d, and alone %v", c, st, source, now, int(e), ok)
	}
	if ok {
		p[source] = left
	}
	return next, ok
}

func TestNoMoreThanMost(t *testing.T) {
	seed := uint64(14)
	for range 300 {
		c := bucket.Conf{Burst: 1 + draw(&seed, 5), Rate: draw(&seed, 4)}
		many := 1 + draw(&seed, 14)
		now := []int{0, 1000, lastTick - 60}[draw(&seed, 3)]
		var st State
		p, g := plain{}, counts{}
		for range 100 {
			now += []int{0, 0, 0, 0, 0, 1, 1, 2, 9}[draw(&seed, 9)]
			source := draw(&seed, many) * 4681
			next, ok := alike(t, c, st, p, source, now)
			st = next
			if ok {
				g[source] = append(g[source], between(0, now, lastTick))
			}
		}
		g.bounded(t, c)
	}
}

// All ways in which two sources ask five times, at ticks that stand still or rise: each is told what it would be told alone.
func TestOthersChangeNothing(t *testing.T) {
	for burst := 1; burst <= 2; burst++ {
		for rate := range 3 {
			c := bucket.Conf{Burst: burst, Rate: rate}
			for way := range 6 * 6 * 6 * 6 * 6 {
				var st State
				p, g, now := plain{}, counts{}, 5
				for range 5 {
					source := way % 2
					now += way / 2 % 3
					way /= 6
					next, ok := alike(t, c, st, p, source, now)
					st = next
					if ok {
						g[source] = append(g[source], now)
					}
				}
				g.bounded(t, c)
			}
		}
	}
}

// Who asks for all at each tick takes just what Most says, whatever others ask.
func TestMostIsReached(t *testing.T) {
	for burst := 1; burst <= 4; burst++ {
		for rate := range burst + 1 {
			c := bucket.Conf{Burst: burst, Rate: rate}
			var st State
			sums := make([]int, 8)
			for n := range 6 {
				for range burst + 1 {
					for source := range sums {
						next, e := Take(c, st, source, 3+n)
						st = next
						if e == api.OK {
							sums[source]++
						} else if e != api.ErrSpent {
							t.Errorf("%v: Take of %d = %d", c, source, int(e))
						}
					}
				}
				for source, sum := range sums {
					if sum != bucket.Most(c, n) {
						t.Errorf("%v: %d are taken of %d in %d ticks, of %d", c, sum, source, n, bucket.Most(c, n))
					}
				}
			}
		}
	}
}

func TestRandomWalk(t *testing.T) {
	seed := uint64(141)
	for range 400 {
		c := bucket.Conf{Burst: 1 + draw(&seed, 6), Rate: draw(&seed, 4)}
		now := []int{0, 1000, lastTick - 60}[draw(&seed, 3)]
		var st State
		for range 60 {
			now += []int{-3, 0, 0, 0, 1, 1, 2, 9}[draw(&seed, 8)]
			source := draw(&seed, 13)*5462 - 1
			all(t, c, st, source, now)
			cleans(t, c, st, now)
			checks(t, c, st)
			tells(t, st)
			if draw(&seed, 9) == 0 {
				st = Clean(c, st, now)
			}
			st, _ = Take(c, st, source, now)
		}
	}
}

// Whatever comes in, each call ends, and tells what it should.
func TestRandomStates(t *testing.T) {
	seed := uint64(142)
	for range 20000 {
		c := bucket.Conf{Burst: draw(&seed, 8), Rate: draw(&seed, 5) - 1}
		st := make(State, draw(&seed, 10))
		source := draw(&seed, 4) - 1
		for i := range st {
			st[i] = Entry{source, bucket.State{Tokens: max(draw(&seed, c.Burst+3)-1, -1), At: draw(&seed, 20) - 1}}
			source += 1 + draw(&seed, 20)/19*(draw(&seed, 5)-3)
		}
		now := draw(&seed, 24) - 2
		checks(t, c, st)
		cleans(t, c, st, now)
		all(t, c, st, draw(&seed, 14)-2, now)
	}
}

// What is told is new memory.

func TestAnswersHaveNothingInCommon(t *testing.T) {
	c := bucket.Conf{Burst: 3, Rate: 1}
	for _, st := range []State{nil, of([]bucket.State{{}, {Tokens: 3}}, 1, 2, 3), of([]bucket.State{{}}, rising(0, 1, 8)...), of(full2(3), 2, 1)} {
		before := slices.Clone(st)
		for _, source := range []int{-1, 0, 1, 2, 9} {
			one, _ := Take(c, st, source, 0)
			other, _ := Take(c, st, source, 0)
			scrawl(one)
			if want, _ := taken(c, st, source, 0); !slices.Equal(other, want) {
				t.Errorf("Take(%v, %v, %d, 0) has become %v", c, st, source, other)
			}
		}
		one, other := Clean(c, st, 0), Clean(c, st, 0)
		scrawl(one)
		if !slices.Equal(other, cleaned(c, st, 0)) {
			t.Errorf("Clean(%v, %v, 0) has become %v", c, st, other)
		}
		l, more := Sources(st), Sources(st)
		clear(l[:cap(l)])
		for i, x := range st {
			if more[i] != x.Source {
				t.Errorf("Sources(%v) has become %v", st, more)
			}
		}
		if !slices.Equal(st, before) {
			t.Errorf("what was handed in has become %v", st)
		}
	}
}

func TestExample(t *testing.T) {
	c := bucket.Conf{Burst: 1}
	st, e := Take(c, nil, 5, 0)
	if e != api.OK || !Same(st, State{{5, bucket.State{}}}) {
		t.Errorf("Take(5) = %v %d", st, int(e))
	}
	st, e = Take(c, st, 5, 0)
	if e != api.ErrSpent || !Same(st, State{{5, bucket.State{}}}) {
		t.Errorf("Take(5) = %v %d", st, int(e))
	}
	st, e = Take(c, st, 6, 0)
	if e != api.OK || !Same(st, State{{5, bucket.State{}}, {6, bucket.State{}}}) {
		t.Errorf("Take(6) = %v %d", st, int(e))
	}
}
