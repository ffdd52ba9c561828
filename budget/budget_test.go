package budget

import (
	"math"
	"testing"

	"callboy/api"
)

// costs are what things cost, in the chapter's words.
var costs = [6]int{8, 6, 4, 3, 2, 1}

// noKinds are numbers that are no kind.
var noKinds = []int{math.MinInt, -4096, -8, -2, -1, 6, 7, 8, 64, 256, 1 << 32, math.MaxInt}

// refused are states that Check refuses, with its errors.
var refused = []struct {
	name string
	st   State
	want api.Errno
}{
	{"nothing", State{}, api.ErrRange},
	{"a Cap below 0", State{Cap: -1}, api.ErrRange},
	{"a Cap far below 0", State{Cap: math.MinInt}, api.ErrRange},
	{"a Cap of 4097", State{Cap: 4097}, api.ErrRange},
	{"a Cap far above 4096", State{Cap: math.MaxInt}, api.ErrRange},
	{"a Cap of 0, and things", State{Many: [6]int{1, 1, 1, 1, 1, 1}}, api.ErrRange},
	{"a Cap of 4097, and more things", State{Cap: 4097, Many: [6]int{4096}}, api.ErrRange},
	{"a Conn below 0", State{Cap: 20, Many: [6]int{-1, 0, 0, 0, 0, 0}}, api.ErrRange},
	{"a Session below 0", State{Cap: 20, Many: [6]int{0, -1, 0, 0, 0, 0}}, api.ErrRange},
	{"an Item below 0", State{Cap: 20, Many: [6]int{0, 0, -1, 0, 0, 0}}, api.ErrRange},
	{"a Known below 0", State{Cap: 20, Many: [6]int{0, 0, 0, -1, 0, 0}}, api.ErrRange},
	{"an Entry below 0", State{Cap: 20, Many: [6]int{0, 0, 0, 0, -1, 0}}, api.ErrRange},
	{"a Direct below 0", State{Cap: 20, Many: [6]int{0, 0, 0, 0, 0, -1}}, api.ErrRange},
	{"one far below 0", State{Cap: 4096, Many: [6]int{math.MinInt, 0, 0, 0, 0, 0}}, api.ErrRange},
	{"one below 0, and another one that makes up for it", State{Cap: 20, Many: [6]int{3, 0, 0, 0, 0, -8}}, api.ErrRange},
	{"4097 Conns", State{Cap: 4096, Many: [6]int{4097, 0, 0, 0, 0, 0}}, api.ErrRange},
	{"4097 Sessions", State{Cap: 4096, Many: [6]int{0, 4097, 0, 0, 0, 0}}, api.ErrRange},
	{"4097 Items", State{Cap: 4096, Many: [6]int{0, 0, 4097, 0, 0, 0}}, api.ErrRange},
	{"4097 Knowns", State{Cap: 4096, Many: [6]int{0, 0, 0, 4097, 0, 0}}, api.ErrRange},
	{"4097 Entries", State{Cap: 4096, Many: [6]int{0, 0, 0, 0, 4097, 0}}, api.ErrRange},
	{"4097 Directs", State{Cap: 4096, Many: [6]int{0, 0, 0, 0, 0, 4097}}, api.ErrRange},
	{"more Directs than there may be cells, of fewer", State{Cap: 7, Many: [6]int{0, 0, 0, 0, 0, 4097}}, api.ErrRange},
	{"a number that wraps around to nothing", State{Cap: 20, Many: [6]int{1 << 61, 0, 0, 0, 0, 0}}, api.ErrRange},
	{"one at the end of int", State{Cap: 4096, Many: [6]int{0, 0, 0, 0, 0, math.MaxInt}}, api.ErrRange},
	{"too many, and one below 0", State{Cap: 20, Many: [6]int{4, 0, 0, 0, 0, -1}}, api.ErrRange},
	{"a Conn, of 7", State{Cap: 7, Many: [6]int{1, 0, 0, 0, 0, 0}}, api.ErrFull},
	{"a Session, of 5", State{Cap: 5, Many: [6]int{0, 1, 0, 0, 0, 0}}, api.ErrFull},
	{"an Item, of 3", State{Cap: 3, Many: [6]int{0, 0, 1, 0, 0, 0}}, api.ErrFull},
	{"a Known, of 2", State{Cap: 2, Many: [6]int{0, 0, 0, 1, 0, 0}}, api.ErrFull},
	{"an Entry, of 1", State{Cap: 1, Many: [6]int{0, 0, 0, 0, 1, 0}}, api.ErrFull},
	{"two Directs, of 1", State{Cap: 1, Many: [6]int{0, 0, 0, 0, 0, 2}}, api.ErrFull},
	{"one of each, of 23", State{Cap: 23, Many: [6]int{1, 1, 1, 1, 1, 1}}, api.ErrFull},
	{"4097 cells", State{Cap: 4096, Many: [6]int{512, 0, 0, 0, 0, 1}}, api.ErrFull},
	{"4096 Conns", State{Cap: 4096, Many: [6]int{4096, 0, 0, 0, 0, 0}}, api.ErrFull},
	{"4096 Entries", State{Cap: 4096, Many: [6]int{0, 0, 0, 0, 4096, 0}}, api.ErrFull},
	{"4096 Directs, of 4095", State{Cap: 4095, Many: [6]int{0, 0, 0, 0, 0, 4096}}, api.ErrFull},
	{"4096 of each", State{Cap: 4096, Many: [6]int{4096, 4096, 4096, 4096, 4096, 4096}}, api.ErrFull},
}

// allowed are states that may be, with what is charged.
var allowed = []struct {
	st    State
	total int
	load  int
}{
	{State{Cap: 1}, 0, 0},
	{State{Cap: 4096}, 0, 0},
	{State{Cap: 1, Many: [6]int{0, 0, 0, 0, 0, 1}}, 1, 100},
	{State{Cap: 8, Many: [6]int{1, 0, 0, 0, 0, 0}}, 8, 100},
	{State{Cap: 6, Many: [6]int{0, 1, 0, 0, 0, 0}}, 6, 100},
	{State{Cap: 4, Many: [6]int{0, 0, 1, 0, 0, 0}}, 4, 100},
	{State{Cap: 3, Many: [6]int{0, 0, 0, 1, 0, 0}}, 3, 100},
	{State{Cap: 2, Many: [6]int{0, 0, 0, 0, 1, 0}}, 2, 100},
	{State{Cap: 24, Many: [6]int{1, 1, 1, 1, 1, 1}}, 24, 100},
	{State{Cap: 25, Many: [6]int{1, 1, 1, 1, 1, 1}}, 24, 96},
	{State{Cap: 20, Many: [6]int{2, 0, 0, 0, 0, 0}}, 16, 80},
	{State{Cap: 100, Many: [6]int{1, 2, 3, 4, 5, 6}}, 60, 60},
	{State{Cap: 3, Many: [6]int{0, 0, 0, 0, 0, 1}}, 1, 33},
	{State{Cap: 3, Many: [6]int{0, 0, 0, 0, 1, 0}}, 2, 66},
	{State{Cap: 201, Many: [6]int{0, 0, 0, 0, 0, 2}}, 2, 0},
	{State{Cap: 200, Many: [6]int{0, 0, 0, 0, 1, 0}}, 2, 1},
	{State{Cap: 4096, Many: [6]int{0, 0, 0, 0, 0, 4095}}, 4095, 99},
	{State{Cap: 4096, Many: [6]int{0, 0, 0, 0, 0, 4096}}, 4096, 100},
	{State{Cap: 4096, Many: [6]int{0, 0, 0, 0, 2048, 0}}, 4096, 100},
	{State{Cap: 4096, Many: [6]int{512, 0, 0, 0, 0, 0}}, 4096, 100},
	{State{Cap: 4096, Many: [6]int{511, 0, 0, 0, 0, 7}}, 4095, 99},
}

// cells is what things cost together, in the test's own words.
func cells(many [6]int) int {
	n := 0
	for kind := range many {
		for range many[kind] {
			n += costs[kind]
		}
	}
	return n
}

// plus is st with n more of a kind.
func plus(st State, kind, n int) State {
	st.Many[kind] += n
	return st
}

// small goes over all states of a Cap that cost no more than it.
func small(limit int, do func(st State)) {
	var fill func(st State, kind, left int)
	fill = func(st State, kind, left int) {
		if kind == 6 {
			do(st)
			return
		}
		for n := 0; n*costs[kind] <= left; n++ {
			fill(plus(st, kind, n), kind+1, left-n*costs[kind])
		}
	}
	fill(State{Cap: limit}, 0, limit)
}

// takes looks at what Take answers.
func takes(t *testing.T, st State, kind, n int, want State, wanted bool) {
	t.Helper()
	if next, ok := Take(st, kind, n); ok != wanted || next != want {
		t.Errorf("Take(%v, %d, %d) = %v %v, want %v %v", st, kind, n, next, ok, want, wanted)
	}
}

// gives looks at what Give answers.
func gives(t *testing.T, st State, kind, n int, want State, wanted bool) {
	t.Helper()
	if next, ok := Give(st, kind, n); ok != wanted || next != want {
		t.Errorf("Give(%v, %d, %d) = %v %v, want %v %v", st, kind, n, next, ok, want, wanted)
	}
}

// fits looks at what Fits answers.
func fits(t *testing.T, st State, kind, n, want int) {
	t.Helper()
	if got := Fits(st, kind, n); got != want {
		t.Errorf("Fits(%v, %d, %d) = %d, want %d", st, kind, n, got, want)
	}
}

// merges looks at what Merge answers.
func merges(t *testing.T, a, b, want State, wanted api.Errno) {
	t.Helper()
	if both, e := Merge(a, b); e != wanted || both != want {
		t.Errorf("Merge(%v, %v) = %v %d, want %v %d", a, b, both, int(e), want, int(wanted))
	}
}

// P8.1

func TestKinds(t *testing.T) {
	// As numbers without a type of their own, they go with any.
	const first, last = byte(Conn), float64(Direct)
	if first != 0 || last != 5 {
		t.Error("the first kind is 0, the last one 5")
	}
	for want, kind := range []int{Conn, Session, Item, Known, Entry, Direct} {
		if kind != want {
			t.Errorf("kind %d is %d", want, kind)
		}
	}
}

func TestCost(t *testing.T) {
	for kind, want := range costs {
		if n := Cost(kind); n != want {
			t.Errorf("Cost(%d) = %d, want %d", kind, n, want)
		}
	}
	for _, kind := range noKinds {
		if n := Cost(kind); n != 0 {
			t.Errorf("Cost(%d) = %d", kind, n)
		}
	}
}

func TestNew(t *testing.T) {
	for limit := 1; limit <= 4096; limit++ {
		st, e := New(limit)
		if e != api.OK || st != (State{Cap: limit}) {
			t.Fatalf("New(%d) = %v %d", limit, st, int(e))
		}
		if Check(st) != api.OK || Total(st) != 0 || Left(st) != limit || Load(st) != 0 {
			t.Fatalf("%v: Check %d, Total %d, Left %d, Load %d", st, int(Check(st)), Total(st), Left(st), Load(st))
		}
	}
	for _, limit := range []int{math.MinInt, -4096, -1, 0, 4097, 4098, 8192, 1 << 32, 1<<32 + 1, math.MaxInt} {
		if st, e := New(limit); e != api.ErrRange || st != (State{}) {
			t.Errorf("New(%d) = %v %d", limit, st, int(e))
		}
	}
}

func TestCheck(t *testing.T) {
	for _, x := range allowed {
		if e := Check(x.st); e != api.OK {
			t.Errorf("Check(%v) = %d", x.st, int(e))
		}
	}
	for _, x := range refused {
		if e := Check(x.st); e != x.want {
			t.Errorf("%s: Check = %d, want %d", x.name, int(e), int(x.want))
		}
	}
}

func TestCheckOfEachNumber(t *testing.T) {
	for kind, cost := range costs {
		for n := -2; n <= 4098; n++ {
			want := api.OK
			switch {
			case n < 0 || n > 4096:
				want = api.ErrRange
			case n*cost > 4096:
				want = api.ErrFull
			}
			if e := Check(plus(State{Cap: 4096}, kind, n)); e != want {
				t.Fatalf("Check of %d of kind %d = %d, want %d", n, kind, int(e), int(want))
			}
		}
	}
}

func TestCheckOfJustCap(t *testing.T) {
	small(26, func(st State) {
		total := cells(st.Many)
		for limit := 1; limit <= 27; limit++ {
			st.Cap = limit
			want := api.OK
			if total > limit {
				want = api.ErrFull
			}
			if e := Check(st); e != want {
				t.Fatalf("Check(%v) = %d, want %d", st, int(e), int(want))
			}
		}
	})
}

// P8.2

func TestTotalLeftLoad(t *testing.T) {
	for _, x := range allowed {
		if Total(x.st) != x.total || Left(x.st) != x.st.Cap-x.total || Load(x.st) != x.load {
			t.Errorf("%v: Total %d, Left %d, Load %d, want %d, %d, %d", x.st, Total(x.st), Left(x.st), Load(x.st), x.total, x.st.Cap-x.total, x.load)
		}
	}
	for _, x := range refused {
		if Total(x.st) != 0 || Left(x.st) != 0 || Load(x.st) != 0 {
			t.Errorf("%s: Total %d, Left %d, Load %d", x.name, Total(x.st), Left(x.st), Load(x.st))
		}
	}
}

func TestTotalOfAllSmall(t *testing.T) {
	small(24, func(st State) {
		total := cells(st.Many)
		if Total(st) != total || Left(st) != 24-total {
			t.Fatalf("%v: Total %d, Left %d, want %d, %d", st, Total(st), Left(st), total, 24-total)
		}
	})
}

func TestLoadIsCut(t *testing.T) {
	for limit := 1; limit <= 150; limit++ {
		for n := range limit + 1 {
			st := State{Cap: limit, Many: [6]int{Direct: n}}
			// The load is the greatest number of hundredths of the Cap that are charged whole.
			want := 0
			for (want+1)*limit <= n*100 {
				want++
			}
			if got := Load(st); got != want {
				t.Fatalf("Load of %d, of %d = %d, want %d", n, limit, got, want)
			}
		}
	}
}

// P8.3

func TestTakeAndFitsOfAllSmall(t *testing.T) {
	for _, limit := range []int{1, 2, 3, 7, 8, 17} {
		small(limit, func(st State) {
			for kind, cost := range costs {
				most := 0
				for cells(st.Many)+(most+1)*cost <= limit {
					most++
				}
				for n := -2; n <= most+2; n++ {
					ok := n >= 0 && n <= most
					want := st
					if ok {
						want = plus(st, kind, n)
					}
					takes(t, st, kind, n, want, ok)
					fits(t, st, kind, n, max(0, min(n, most)))
				}
				fits(t, st, kind, math.MaxInt, most)
			}
		})
	}
}

func TestGiveOfAllSmall(t *testing.T) {
	small(17, func(st State) {
		for kind, has := range st.Many {
			for n := -2; n <= has+2; n++ {
				ok := n >= 0 && n <= has
				want := st
				if ok {
					want = plus(st, kind, -n)
				}
				gives(t, st, kind, n, want, ok)
			}
		}
	})
}

func TestJustWhatFits(t *testing.T) {
	for _, limit := range []int{4095, 4096} {
		for kind, cost := range costs {
			st := State{Cap: limit}
			most := limit / cost
			full := plus(st, kind, most)
			takes(t, st, kind, most, full, true)
			takes(t, st, kind, most+1, st, false)
			takes(t, full, kind, 0, full, true)
			takes(t, full, kind, 1, full, false)
			gives(t, full, kind, most, st, true)
			gives(t, full, kind, most+1, full, false)
			gives(t, st, kind, 0, st, true)
			gives(t, st, kind, 1, st, false)
			fits(t, st, kind, most-1, most-1)
			fits(t, st, kind, most, most)
			fits(t, st, kind, most+1, most)
			fits(t, full, kind, 1, 0)
			fits(t, full, kind, 0, 0)
		}
	}
}

func TestNumbersAtTheEndsOfInt(t *testing.T) {
	// Some of these wrap around to a small number when they are multiplied by a cost.
	great := []int{4097, 1 << 32, 1 << 60, 1 << 61, 1<<61 + 1, 1 << 62, math.MaxInt/3 + 1, math.MaxInt/6*4 + 3, math.MaxInt - 1, math.MaxInt}
	for _, st := range []State{{Cap: 1}, {Cap: 20, Many: [6]int{2, 0, 0, 0, 0, 0}}, {Cap: 4096}, {Cap: 4096, Many: [6]int{1, 2, 3, 4, 5, 6}}, {Cap: 24, Many: [6]int{1, 1, 1, 1, 1, 1}}} {
		for kind, cost := range costs {
			for _, n := range great {
				takes(t, st, kind, n, st, false)
				gives(t, st, kind, n, st, false)
				fits(t, st, kind, n, (st.Cap-cells(st.Many))/cost)
			}
			for _, n := range []int{-1, -2, -4096, -1 << 32, -1 << 61, -1 << 62, math.MinInt + 1, math.MinInt} {
				takes(t, st, kind, n, st, false)
				gives(t, st, kind, n, st, false)
				fits(t, st, kind, n, 0)
			}
		}
	}
}

func TestNoKinds(t *testing.T) {
	for _, st := range []State{{Cap: 4096}, {Cap: 100, Many: [6]int{1, 2, 3, 4, 5, 6}}, {Cap: 24, Many: [6]int{1, 1, 1, 1, 1, 1}}} {
		for _, kind := range noKinds {
			for _, n := range []int{math.MinInt, -1, 0, 1, 2, 4096, math.MaxInt} {
				takes(t, st, kind, n, st, false)
				gives(t, st, kind, n, st, false)
				fits(t, st, kind, n, 0)
			}
		}
	}
}

func TestRefusedStatesAreNotChanged(t *testing.T) {
	for _, x := range refused {
		for kind := -1; kind <= 6; kind++ {
			for _, n := range []int{math.MinInt, -1, 0, 1, 4096, math.MaxInt} {
				takes(t, x.st, kind, n, x.st, false)
				gives(t, x.st, kind, n, x.st, false)
				fits(t, x.st, kind, n, 0)
			}
		}
	}
}

// P8.4

func TestMerge(t *testing.T) {
	for _, x := range []struct{ a, b, want State }{
		{State{Cap: 1}, State{Cap: 1}, State{Cap: 1}},
		{State{Cap: 4096}, State{Cap: 4096}, State{Cap: 4096}},
		{State{Cap: 100, Many: [6]int{1, 0, 2, 0, 3, 0}}, State{Cap: 100, Many: [6]int{0, 1, 2, 1, 0, 9}}, State{Cap: 100, Many: [6]int{1, 1, 4, 1, 3, 9}}},
		{State{Cap: 24, Many: [6]int{1, 0, 1, 0, 1, 0}}, State{Cap: 24, Many: [6]int{0, 1, 0, 1, 0, 1}}, State{Cap: 24, Many: [6]int{1, 1, 1, 1, 1, 1}}},
		{State{Cap: 24, Many: [6]int{1, 1, 1, 1, 1, 1}}, State{Cap: 24}, State{Cap: 24, Many: [6]int{1, 1, 1, 1, 1, 1}}},
		{State{Cap: 4096, Many: [6]int{0, 0, 0, 0, 0, 4095}}, State{Cap: 4096, Many: [6]int{0, 0, 0, 0, 0, 1}}, State{Cap: 4096, Many: [6]int{0, 0, 0, 0, 0, 4096}}},
		{State{Cap: 4096, Many: [6]int{256, 0, 0, 0, 0, 0}}, State{Cap: 4096, Many: [6]int{0, 0, 0, 0, 1024, 0}}, State{Cap: 4096, Many: [6]int{256, 0, 0, 0, 1024, 0}}},
	} {
		merges(t, x.a, x.b, x.want, api.OK)
		merges(t, x.b, x.a, x.want, api.OK)
	}
}

func TestMergeOfTooMany(t *testing.T) {
	for _, x := range []struct{ a, b State }{
		{State{Cap: 1, Many: [6]int{0, 0, 0, 0, 0, 1}}, State{Cap: 1, Many: [6]int{0, 0, 0, 0, 0, 1}}},
		{State{Cap: 24, Many: [6]int{1, 0, 1, 0, 1, 1}}, State{Cap: 24, Many: [6]int{0, 1, 0, 1, 0, 1}}},
		{State{Cap: 24, Many: [6]int{1, 1, 1, 1, 1, 1}}, State{Cap: 24, Many: [6]int{0, 0, 0, 0, 0, 1}}},
		{State{Cap: 24, Many: [6]int{3, 0, 0, 0, 0, 0}}, State{Cap: 24, Many: [6]int{0, 0, 0, 0, 1, 0}}},
		{State{Cap: 4096, Many: [6]int{512, 0, 0, 0, 0, 0}}, State{Cap: 4096, Many: [6]int{512, 0, 0, 0, 0, 0}}},
		// A number above 4096 is one of too many, too: no number of the two is out of range.
		{State{Cap: 4096, Many: [6]int{0, 0, 0, 0, 0, 4096}}, State{Cap: 4096, Many: [6]int{0, 0, 0, 0, 0, 1}}},
		{State{Cap: 4096, Many: [6]int{0, 0, 0, 0, 0, 2049}}, State{Cap: 4096, Many: [6]int{0, 0, 0, 0, 0, 2048}}},
		{State{Cap: 4096, Many: [6]int{0, 0, 0, 0, 0, 4096}}, State{Cap: 4096, Many: [6]int{0, 0, 0, 0, 0, 4096}}},
	} {
		merges(t, x.a, x.b, State{}, api.ErrFull)
		merges(t, x.b, x.a, State{}, api.ErrFull)
	}
}

func TestMergeOfOtherCaps(t *testing.T) {
	for _, x := range []struct{ a, b State }{
		{State{Cap: 20}, State{Cap: 21}},
		{State{Cap: 1}, State{Cap: 4096}},
		{State{Cap: 4095, Many: [6]int{1, 2, 3, 4, 5, 6}}, State{Cap: 4096, Many: [6]int{1, 2, 3, 4, 5, 6}}},
		// Both together are above each Cap, and above both.
		{State{Cap: 8, Many: [6]int{1, 0, 0, 0, 0, 0}}, State{Cap: 9, Many: [6]int{1, 0, 0, 0, 0, 0}}},
	} {
		merges(t, x.a, x.b, State{}, api.ErrArg)
		merges(t, x.b, x.a, State{}, api.ErrArg)
	}
}

func TestMergeOfRefused(t *testing.T) {
	for _, x := range refused {
		for _, y := range allowed {
			merges(t, x.st, y.st, State{}, x.want)
			merges(t, y.st, x.st, State{}, x.want)
		}
		// The first one's error is told ahead of the second one's.
		for _, y := range refused {
			merges(t, x.st, y.st, State{}, x.want)
		}
	}
}

func TestMergeOfAllSmall(t *testing.T) {
	const limit = 9
	small(limit, func(a State) {
		small(limit, func(b State) {
			want, e := a, api.OK
			for kind, n := range b.Many {
				want = plus(want, kind, n)
			}
			if cells(a.Many)+cells(b.Many) > limit {
				want, e = State{}, api.ErrFull
			}
			merges(t, a, b, want, e)
		})
	})
}

// P8.5

func TestTakenAndGivenBack(t *testing.T) {
	small(20, func(st State) {
		for kind := range costs {
			for n := range Fits(st, kind, 21) + 1 {
				next, ok := Take(st, kind, n)
				if !ok || Check(next) != api.OK || Total(next) > next.Cap {
					t.Fatalf("Take(%v, %d, %d) = %v %v", st, kind, n, next, ok)
				}
				gives(t, next, kind, n, st, true)
			}
			for n := range st.Many[kind] + 1 {
				next, ok := Give(st, kind, n)
				if !ok || Check(next) != api.OK {
					t.Fatalf("Give(%v, %d, %d) = %v %v", st, kind, n, next, ok)
				}
				takes(t, next, kind, n, st, true)
			}
		}
	})
}

func TestALongWalk(t *testing.T) {
	seed := uint64(8)
	draw := func(n int) int {
		seed = seed*6364136223846793005 + 1442695040888963407
		return int(seed >> 33 % uint64(n))
	}
	for _, limit := range []int{1, 2, 5, 20, 100, 777, 4096} {
		st, _ := New(limit)
		want := State{Cap: limit}
		for step := range 4000 {
			kind, n := draw(8)-1, draw(limit/4+4)-1
			there := kind >= 0 && kind < 6 && n >= 0
			ok := false
			if draw(2) == 0 {
				if there && cells(want.Many)+n*costs[kind] <= limit {
					want = plus(want, kind, n)
					ok = true
				}
				takes(t, st, kind, n, want, ok)
				st, _ = Take(st, kind, n)
			} else {
				if there && n <= want.Many[kind] {
					want = plus(want, kind, -n)
					ok = true
				}
				gives(t, st, kind, n, want, ok)
				st, _ = Give(st, kind, n)
			}
			if st != want || Check(st) != api.OK || Total(st) > limit || Total(st)+Left(st) != limit || Load(st) < 0 || Load(st) > 100 {
				t.Fatalf("step %d of %d: %v, want %v", step, limit, st, want)
			}
		}
	}
}

// Rule 3: an argument is not changed.

func TestArgumentsStay(t *testing.T) {
	st, other := State{Cap: 100, Many: [6]int{1, 2, 3, 0, 5, 6}}, State{Cap: 100, Many: [6]int{1, 0, 0, 0, 0, 1}}
	was, otherWas := st, other
	left, _ := Take(st, Known, 4)
	right, _ := Give(st, Item, 1)
	both, _ := Merge(st, other)
	if st != was || other != otherWas {
		t.Errorf("%v and %v became %v and %v", was, otherWas, st, other)
	}
	if left.Many != [6]int{1, 2, 3, 4, 5, 6} || right.Many != [6]int{1, 2, 2, 0, 5, 6} || both.Many != [6]int{2, 2, 3, 0, 5, 7} {
		t.Errorf("%v, %v, %v", left, right, both)
	}
}

// The example.

func TestExample(t *testing.T) {
	st, e := New(20)
	st, ok := Take(st, Conn, 2)
	if e != api.OK || !ok || Left(st) != 4 || Load(st) != 80 {
		t.Errorf("%v %d %v: Left %d, Load %d", st, int(e), ok, Left(st), Load(st))
	}
}
