package pool

import (
	"math"
	"slices"
	"testing"

	"callboy/api"
)

// top is the Gen of a cell that is worn out.
const top = 1 << 20

// refused are states that Check refuses, with its errors.
var refused = []struct {
	name string
	st   State
	want api.Errno
}{
	{"nothing", State{}, api.ErrLong},
	{"no cells, but a free place", State{Free: []int{0}}, api.ErrLong},
	{"65 cells", State{Cells: make([]Cell, 65), Free: down(65)}, api.ErrLong},
	{"1000 cells", State{Cells: make([]Cell, 1000)}, api.ErrLong},
	{"65 cells, all else wrong", State{Cells: append(make([]Cell, 64), Cell{Gen: -1, Value: 1}), Free: []int{99}}, api.ErrLong},
	{"a Gen below 0", State{Cells: []Cell{{Gen: -1}}, Free: []int{0}}, api.ErrRange},
	{"a live one's Gen below 0", State{Cells: []Cell{{Gen: math.MinInt, Live: true}}}, api.ErrRange},
	{"a Gen above the top", State{Cells: []Cell{{Gen: top + 1}}}, api.ErrRange},
	{"a live one's Gen above the top", State{Cells: []Cell{{}, {Gen: math.MaxInt, Live: true}}, Free: []int{0}}, api.ErrRange},
	{"a Gen behind a stray value", State{Cells: []Cell{{Value: 1}, {Gen: -1}}, Free: []int{7}}, api.ErrRange},
	{"a stray value", State{Cells: []Cell{{Value: 1}}, Free: []int{0}}, api.ErrForm},
	{"a worn one's stray value", State{Cells: []Cell{{}, {Gen: top, Value: -1}}, Free: []int{0}}, api.ErrForm},
	{"a stray value, and a wrong place", State{Cells: []Cell{{}, {Value: 5}}, Free: []int{1, 1, 9}}, api.ErrForm},
	{"a free one is missing", State{Cells: make([]Cell, 1)}, api.ErrOrder},
	{"the last free one is missing", State{Cells: make([]Cell, 3), Free: []int{0, 1}}, api.ErrOrder},
	{"a place twice", State{Cells: make([]Cell, 2), Free: []int{1, 0, 1}}, api.ErrOrder},
	{"a place twice, another missing", State{Cells: make([]Cell, 2), Free: []int{1, 1}}, api.ErrOrder},
	{"a place below 0", State{Cells: make([]Cell, 1), Free: []int{-1}}, api.ErrOrder},
	{"a place far below 0", State{Cells: make([]Cell, 1), Free: []int{0, math.MinInt}}, api.ErrOrder},
	{"a place behind the end", State{Cells: make([]Cell, 1), Free: []int{0, 1}}, api.ErrOrder},
	{"a place behind all ends", State{Cells: make([]Cell, 64), Free: append(down(64), 64)}, api.ErrOrder},
	{"a place far behind the end", State{Cells: make([]Cell, 1), Free: []int{math.MaxInt, 0}}, api.ErrOrder},
	{"a live one", State{Cells: []Cell{{Live: true}}, Free: []int{0}}, api.ErrOrder},
	{"a worn one", State{Cells: []Cell{{Gen: top}}, Free: []int{0}}, api.ErrOrder},
	{"a live one, none free", State{Cells: []Cell{{Live: true, Value: 3}, {}}}, api.ErrOrder},
	{"one below the top is missing", State{Cells: []Cell{{Gen: top - 1}}}, api.ErrOrder},
}

// allowed are states that may be, but that New does not make.
var allowed = []State{
	{Cells: []Cell{{Live: true}}},
	{Cells: []Cell{{Live: true, Value: math.MinInt}}, Free: []int{}},
	{Cells: []Cell{{Gen: top}}},
	{Cells: []Cell{{Gen: top, Live: true, Value: 8}}},
	{Cells: []Cell{{Gen: top - 1}}, Free: []int{0}},
	{Cells: make([]Cell, 3), Free: []int{1, 0, 2}},
	{Cells: []Cell{{Gen: 4}, {Gen: top}, {Gen: 9, Live: true, Value: -4}, {}}, Free: []int{3, 0}},
	{Cells: []Cell{{Gen: 2, Live: true, Value: 6}, {Live: true, Value: 7}}},
	{Cells: make([]Cell, 64), Free: down(64)},
}

// down are the places that New has free.
func down(n int) []int {
	var l []int
	for i := n - 1; i >= 0; i-- {
		l = append(l, i)
	}
	return l
}

// made is a new state of n cells.
func made(t *testing.T, n int) State {
	t.Helper()
	st, e := New(n)
	if e != api.OK {
		t.Fatalf("New(%d): %d", n, int(e))
	}
	return st
}

// same is Same in the test's own words.
func same(a, b State) bool {
	return slices.Equal(a.Cells, b.Cells) && slices.Equal(a.Free, b.Free)
}

// copied shares nothing with st.
func copied(st State) State {
	return State{Cells: slices.Clone(st.Cells), Free: slices.Clone(st.Free)}
}

// findSlowly tells where a handle leads, by going through all cells.
func findSlowly(st State, h int) (int, bool) {
	for place, c := range st.Cells {
		if c.Live && 64*c.Gen+place == h {
			return place, true
		}
	}
	return 0, false
}

// P3.1

func TestNew(t *testing.T) {
	for n := 1; n <= 64; n++ {
		want := State{Cells: make([]Cell, n), Free: down(n)}
		if st, e := New(n); e != api.OK || !same(st, want) || Check(st) != api.OK {
			t.Errorf("New(%d) = %+v %d", n, st, int(e))
		}
	}
	for _, n := range []int{math.MinInt, -64, -1, 0, 65, 128, math.MaxInt} {
		if st, e := New(n); e != api.ErrRange || st.Cells != nil || st.Free != nil {
			t.Errorf("New(%d) = %+v %d", n, st, int(e))
		}
	}
}

func TestCheck(t *testing.T) {
	for _, x := range refused {
		if e := Check(x.st); e != x.want {
			t.Errorf("%s: %d", x.name, int(e))
		}
	}
	for _, st := range allowed {
		if e := Check(st); e != api.OK {
			t.Errorf("%+v: %d", st, int(e))
		}
	}
}

// mayBe tells by the chapter's words what Check tells of few cells.
func mayBe(st State) api.Errno {
	free := map[int]bool{}
	for place, c := range st.Cells {
		if c.Gen < 0 || c.Gen > top {
			return api.ErrRange
		}
		free[place] = !c.Live && c.Gen != top
	}
	for _, c := range st.Cells {
		if c.Value != 0 && !c.Live {
			return api.ErrForm
		}
	}
	for _, place := range st.Free {
		if !free[place] {
			return api.ErrOrder
		}
		delete(free, place)
	}
	for _, left := range free {
		if left {
			return api.ErrOrder
		}
	}
	return api.OK
}

func TestCheckOfAllMixes(t *testing.T) {
	var cells []Cell
	for _, gen := range []int{-1, 0, 5, top - 1, top, top + 1} {
		for _, value := range []int{0, 1} {
			cells = append(cells, Cell{gen, false, value}, Cell{gen, true, value})
		}
	}
	frees := [][]int{nil, {0}, {1}, {2}, {-1}, {0, 1}, {1, 0}, {0, 0}, {1, 1}, {0, 2}, {1, 0, 1}, {0, 1, -1}, {0, 1, 2}}
	count := map[api.Errno]int{}
	for _, a := range cells {
		for _, b := range cells {
			for _, free := range frees {
				st := State{Cells: []Cell{a, b}, Free: free}
				want := mayBe(st)
				count[want]++
				if e := Check(st); e != want {
					t.Fatalf("%+v: %d, want %d", st, int(e), int(want))
				}
			}
		}
	}
	if len(count) != 4 {
		t.Errorf("not all errors came: %v", count)
	}
}

func TestCheckOfEachPlace(t *testing.T) {
	for place := range 64 {
		for _, x := range []struct {
			c    Cell
			want api.Errno
		}{
			{Cell{Gen: -1}, api.ErrRange},
			{Cell{Gen: top + 1}, api.ErrRange},
			{Cell{Value: 1}, api.ErrForm},
			{Cell{Live: true}, api.ErrOrder},
			{Cell{Gen: top}, api.ErrOrder},
			{Cell{Gen: top - 1}, api.OK},
		} {
			st := made(t, 64)
			st.Cells[place] = x.c
			if e := Check(st); e != x.want {
				t.Errorf("%+v at %d: %d", x.c, place, int(e))
			}
		}
		st := made(t, 64)
		st.Free = slices.Delete(st.Free, place, place+1)
		if e := Check(st); e != api.ErrOrder {
			t.Errorf("without the free one at %d: %d", place, int(e))
		}
	}
}

func TestSame(t *testing.T) {
	one := State{Cells: []Cell{{Gen: 1, Live: true, Value: 5}, {}, {}}, Free: []int{2, 1}}
	others := []State{
		{},
		{Cells: one.Cells},
		{Free: one.Free},
		{Cells: []Cell{{Gen: 2, Live: true, Value: 5}, {}, {}}, Free: []int{2, 1}},
		{Cells: []Cell{{Gen: 1, Value: 5}, {}, {}}, Free: []int{2, 1}},
		{Cells: []Cell{{Gen: 1, Live: true, Value: 6}, {}, {}}, Free: []int{2, 1}},
		{Cells: []Cell{{Gen: 1, Live: true, Value: 5}, {}, {Gen: 1}}, Free: []int{2, 1}},
		{Cells: []Cell{{Gen: 1, Live: true, Value: 5}, {}}, Free: []int{2, 1}},
		{Cells: []Cell{{Gen: 1, Live: true, Value: 5}, {}, {}, {}}, Free: []int{2, 1}},
		{Cells: one.Cells, Free: []int{1, 2}},
		{Cells: one.Cells, Free: []int{2}},
		{Cells: one.Cells, Free: []int{2, 1, 1}},
	}
	if !Same(one, copied(one)) {
		t.Error("a copy is another")
	}
	for _, x := range others {
		if Same(one, x) || Same(x, one) || !Same(x, copied(x)) {
			t.Errorf("%+v", x)
		}
	}
	if !Same(State{}, State{Cells: []Cell{}, Free: []int{}}) || !Same(State{Free: []int{}}, State{}) {
		t.Error("empty lists are not nil")
	}
}

// P3.2

func TestTakeAllPlaces(t *testing.T) {
	for _, n := range []int{1, 2, 63, 64} {
		st := made(t, n)
		for place := range n {
			value := 1000 - place
			next, h, e := Take(st, value)
			want := copied(st)
			want.Cells[place] = Cell{Live: true, Value: value}
			want.Free = down(n)[:n-1-place]
			if e != api.OK || h != place || !same(next, want) || Check(next) != api.OK {
				t.Fatalf("take %d of %d: %+v %d %d", place, n, next, h, int(e))
			}
			st = next
		}
		if next, h, e := Take(st, 1); e != api.ErrFull || h != 0 || !same(next, st) {
			t.Errorf("take of %d full ones: %+v %d %d", n, next, h, int(e))
		}
	}
}

func TestTakeOfAState(t *testing.T) {
	for _, st := range allowed {
		for _, value := range []int{0, 7, -7, math.MinInt, math.MaxInt} {
			next, h, e := Take(st, value)
			if len(st.Free) == 0 {
				if e != api.ErrFull || h != 0 || !same(next, st) {
					t.Errorf("%+v: %+v %d %d", st, next, h, int(e))
				}
				continue
			}
			want, last := copied(st), len(st.Free)-1
			place := st.Free[last]
			want.Free = want.Free[:last]
			want.Cells[place] = Cell{Gen: st.Cells[place].Gen, Live: true, Value: value}
			if e != api.OK || h != 64*st.Cells[place].Gen+place || !same(next, want) {
				t.Errorf("%+v: %+v %d %d", st, next, h, int(e))
			}
			if got, ok := Get(next, h); got != value || !ok {
				t.Errorf("%+v: %d %v", next, got, ok)
			}
		}
	}
}

func TestRefusedStatesStayAsTheyWere(t *testing.T) {
	for _, x := range refused {
		was := copied(x.st)
		if st, h, e := Take(x.st, 1); e != x.want || h != 0 || !same(st, was) {
			t.Errorf("%s: take %+v %d %d", x.name, st, h, int(e))
		}
		for _, h := range []int{0, 1, -1, 64, 64 * top} {
			if st, e := Give(x.st, h); e != x.want || !same(st, was) {
				t.Errorf("%s: give %d %+v %d", x.name, h, st, int(e))
			}
			if st, e := Set(x.st, h, 1); e != x.want || !same(st, was) {
				t.Errorf("%s: set %d %+v %d", x.name, h, st, int(e))
			}
			if n, ok := Get(x.st, h); n != 0 || ok {
				t.Errorf("%s: get %d %d %v", x.name, h, n, ok)
			}
		}
		if n, l := Used(x.st), Handles(x.st); n != 0 || len(l) != 0 {
			t.Errorf("%s: %d used, %v", x.name, n, l)
		}
	}
}

func TestRefusedLiveOnesAreNotTold(t *testing.T) {
	for _, st := range []State{
		{Cells: []Cell{{Live: true, Value: 4}, {}}},
		{Cells: []Cell{{Live: true, Value: 4}, {Gen: -1}}},
		{Cells: []Cell{{Live: true, Value: 4}, {Value: 1}}, Free: []int{1}},
		{Cells: append([]Cell{{Live: true, Value: 4}}, make([]Cell, 64)...)},
	} {
		if n, ok := Get(st, 0); n != 0 || ok {
			t.Errorf("%+v: get %d %v", st, n, ok)
		}
		if n, l := Used(st), Handles(st); n != 0 || len(l) != 0 {
			t.Errorf("%+v: %d used, %v", st, n, l)
		}
	}
}

// P3.3

func TestHandlesOfNoLiveCell(t *testing.T) {
	st := State{
		Cells: []Cell{{Gen: 3, Live: true, Value: 30}, {Gen: 2}, {Live: true, Value: 32}, {Gen: top}},
		Free:  []int{1},
	}
	live := map[int]int{3 * 64: 0, 2: 2}
	hs := []int{math.MinInt, math.MinInt + 2, -1 << 40, -128 + 2, -64, -64 + 2, -62, -1, math.MaxInt, math.MaxInt - 61, 1<<40 + 2, 64*top + 3, 64*(top+1) + 3}
	for h := range 1000 {
		hs = append(hs, h)
	}
	for _, h := range hs {
		place, ok := live[h]
		if ok {
			if got, yes := Get(st, h); got != st.Cells[place].Value || !yes {
				t.Errorf("Get(%d) = %d %v", h, got, yes)
			}
			continue
		}
		if next, e := Give(st, h); e != api.ErrNone || !same(next, st) {
			t.Errorf("Give(%d) = %+v %d", h, next, int(e))
		}
		if next, e := Set(st, h, 1); e != api.ErrNone || !same(next, st) {
			t.Errorf("Set(%d) = %+v %d", h, next, int(e))
		}
		if n, yes := Get(st, h); n != 0 || yes {
			t.Errorf("Get(%d) = %d %v", h, n, yes)
		}
	}
}

func TestGiveAndSetOfAState(t *testing.T) {
	for _, st := range allowed {
		for place, c := range st.Cells {
			h := 64*c.Gen + place
			if !c.Live {
				if next, e := Give(st, h); e != api.ErrNone || !same(next, st) {
					t.Errorf("Give(%+v, %d) = %+v %d", st, h, next, int(e))
				}
				continue
			}
			want := copied(st)
			want.Cells[place] = Cell{Gen: c.Gen + 1}
			if c.Gen+1 < top {
				want.Free = append(want.Free, place)
			}
			if next, e := Give(st, h); e != api.OK || !same(next, want) {
				t.Errorf("Give(%+v, %d) = %+v %d", st, h, next, int(e))
			}
			for _, value := range []int{0, 9, math.MinInt, math.MaxInt} {
				want = copied(st)
				want.Cells[place].Value = value
				next, e := Set(st, h, value)
				if e != api.OK || !same(next, want) {
					t.Errorf("Set(%+v, %d, %d) = %+v %d", st, h, value, next, int(e))
				}
				if got, ok := Get(next, h); got != value || !ok {
					t.Errorf("Get(%+v, %d) = %d %v", next, h, got, ok)
				}
			}
		}
	}
}

func TestAWornCellIsNotFreeAgain(t *testing.T) {
	st := State{Cells: []Cell{{Gen: top - 2}, {}}, Free: []int{1, 0}}
	for _, want := range []int{64 * (top - 2), 64 * (top - 1), 1} {
		var h int
		var e api.Errno
		if st, h, e = Take(st, 5); e != api.OK || h != want {
			t.Fatalf("take: %d %d, want %d", h, int(e), want)
		}
		if h == 1 {
			break
		}
		if st, e = Give(st, h); e != api.OK || Check(st) != api.OK {
			t.Fatalf("give %d: %d", h, int(e))
		}
	}
	if want := (State{Cells: []Cell{{Gen: top}, {Live: true, Value: 5}}}); !same(st, want) {
		t.Errorf("%+v", st)
	}
	if _, _, e := Take(st, 1); e != api.ErrFull {
		t.Errorf("take: %d", int(e))
	}
}

// P3.4

func TestUsedAndHandles(t *testing.T) {
	for _, x := range []struct {
		st   State
		want []int
	}{
		{made(t, 1), nil},
		{made(t, 64), nil},
		{State{Cells: []Cell{{Gen: top}}}, nil},
		{State{Cells: []Cell{{Live: true}}}, []int{0}},
		{State{Cells: []Cell{{Gen: 9, Live: true, Value: 1}, {Gen: 3}, {Gen: 2, Live: true}, {Gen: top, Live: true, Value: -1}}, Free: []int{1}}, []int{576, 130, 64*top + 3}},
	} {
		if n, l := Used(x.st), Handles(x.st); n != len(x.want) || !slices.Equal(l, x.want) {
			t.Errorf("%+v: %d used, %v", x.st, n, l)
		}
	}
	st := made(t, 64)
	var want []int
	for h := range 64 {
		st, _, _ = Take(st, 0)
		want = append(want, h)
		if n, l := Used(st), Handles(st); n != h+1 || !slices.Equal(l, want) {
			t.Errorf("after take %d: %d used, %v", h, n, l)
		}
	}
}

// P3.5

func TestExample(t *testing.T) {
	st := made(t, 2)
	st, first, _ := Take(st, 5)
	st, e := Give(st, 0)
	st, second, bad := Take(st, 7)
	if first != 0 || e != api.OK || second != 64 || bad != api.OK {
		t.Error(first, int(e), second, int(bad))
	}
	if want := (State{Cells: []Cell{{Gen: 1, Live: true, Value: 7}, {}}, Free: []int{1}}); !same(st, want) {
		t.Errorf("%+v", st)
	}
	if _, e := Give(st, 0); e != api.ErrNone {
		t.Errorf("an old handle: %d", int(e))
	}
}

func TestTheLastGivenIsTakenNext(t *testing.T) {
	st := made(t, 8)
	for v := range 8 {
		st, _, _ = Take(st, v)
	}
	given := []int{5, 0, 7, 3}
	for _, h := range given {
		st, _ = Give(st, h)
	}
	for i := len(given) - 1; i >= 0; i-- {
		var h int
		if st, h, _ = Take(st, 0); h != 64+given[i] {
			t.Errorf("took %d, want the place %d again", h, given[i])
		}
	}
}

// dice tells numbers below n, the same ones each time.
func dice(seed uint64) func(n int) int {
	return func(n int) int {
		seed = seed*6364136223846793005 + 1442695040888963407
		return int(seed >> 33 % uint64(n))
	}
}

func TestALongWalk(t *testing.T) {
	for seed, n := range []int{1, 2, 3, 5, 17, 64} {
		roll := dice(uint64(seed))
		st := made(t, n)
		// Some cells wear out on the way.
		for place := range n {
			st.Cells[place].Gen = top - 1 - roll(60)
		}
		live, gone := map[int]int{}, map[int]bool{}
		var last []int
		for step := range 4000 {
			var e api.Errno
			h := 0
			if len(last) > 0 {
				h = last[roll(len(last))]
			}
			_, isLive := live[h]
			want := api.OK
			if !isLive {
				want = api.ErrNone
			}
			switch roll(5) {
			case 0, 1:
				want = api.OK
				if len(st.Free) == 0 {
					want = api.ErrFull
				}
				if st, h, e = Take(st, step); e == api.OK {
					if _, twice := live[h]; twice || gone[h] {
						t.Fatalf("the handle %d came twice", h)
					}
					live[h] = step
					last = append(last, h)
				}
			case 2, 3:
				if st, e = Give(st, h); e == api.OK {
					delete(live, h)
					gone[h] = true
				}
			default:
				if st, e = Set(st, h, -step); e == api.OK {
					live[h] = -step
				}
			}
			if e != want || Check(st) != api.OK || Used(st) != len(live) {
				t.Fatalf("%d cells, step %d: %d, want %d, %+v", n, step, int(e), int(want), st)
			}
			for _, h := range last {
				value, ok := live[h]
				place, found := findSlowly(st, h)
				if got, yes := Get(st, h); got != value || yes != ok || found != ok || ok && place != h%64 {
					t.Fatalf("%d cells, step %d: Get(%d) = %d %v, want %d %v", n, step, h, got, yes, value, ok)
				}
			}
			if len(last) > 80 {
				last = slices.DeleteFunc(last, func(h int) bool { return gone[h] })
			}
		}
		for _, h := range Handles(st) {
			if _, ok := live[h]; !ok {
				t.Errorf("the handle %d is told, and not live", h)
			}
		}
	}
}

// Rule 3: an argument is not changed, and an answer is new memory.

// roomy is st with room behind its lists, that is filled.
func roomy(st State) (State, func() bool) {
	cells := append(slices.Clone(st.Cells), Cell{77, true, 77}, Cell{78, true, 78})
	free := append(slices.Clone(st.Free), 77, 78)
	wasCells, wasFree := slices.Clone(cells), slices.Clone(free)
	n, m := len(st.Cells), len(st.Free)
	untouched := func() bool { return slices.Equal(cells, wasCells) && slices.Equal(free, wasFree) }
	return State{Cells: cells[:n], Free: free[:m]}, untouched
}

// spoil fills all that an answer's lists hold, their spare room too.
func spoil(st State) {
	for i := range st.Cells[:cap(st.Cells)] {
		st.Cells[:cap(st.Cells)][i] = Cell{99, true, 99}
	}
	for i := range st.Free[:cap(st.Free)] {
		st.Free[:cap(st.Free)][i] = 99
	}
}

func TestAnswersAreNewMemory(t *testing.T) {
	states := []State{
		{Cells: []Cell{{Gen: 1}, {Live: true, Value: 4}, {}}, Free: []int{2, 0}},
		{Cells: []Cell{{Gen: 1}, {Live: true, Value: 4}}, Free: []int{0}},
		{Cells: []Cell{{Gen: top}, {Live: true, Value: 4}}},
		{Cells: []Cell{{}, {Gen: top - 1, Live: true, Value: 4}}, Free: []int{0}},
	}
	for _, st := range states {
		live := 64*st.Cells[1].Gen + 1
		for name, call := range map[string]func(State) (State, api.Errno){
			"take": func(st State) (State, api.Errno) { st, _, e := Take(st, 6); return st, e },
			"give": func(st State) (State, api.Errno) { return Give(st, live) },
			"set":  func(st State) (State, api.Errno) { return Set(st, live, 6) },
		} {
			given, untouched := roomy(st)
			next, e := call(given)
			if !untouched() {
				t.Errorf("%s changed %+v", name, st)
			}
			if e != api.OK {
				continue
			}
			spoil(next)
			if !untouched() {
				t.Errorf("what %s told of %+v is in the argument's memory", name, st)
			}
		}
	}
	a, b := made(t, 3), made(t, 3)
	spoil(a)
	if !same(b, State{Cells: make([]Cell, 3), Free: down(3)}) {
		t.Error("two new states share memory")
	}
}

func TestTwoWaysFromOneState(t *testing.T) {
	st := made(t, 4)
	for v := range 4 {
		st, _, _ = Take(st, v)
	}
	st, _ = Give(st, 3)
	left, _ := Give(st, 0)
	right, _ := Give(st, 1)
	if !slices.Equal(left.Free, []int{3, 0}) || !slices.Equal(right.Free, []int{3, 1}) || !slices.Equal(st.Free, []int{3}) {
		t.Errorf("%v, %v of %v", left.Free, right.Free, st.Free)
	}
	left, _, _ = Take(left, 1)
	left.Free = append(left.Free, 2)
	if !slices.Equal(right.Free, []int{3, 1}) || !slices.Equal(st.Free, []int{3}) {
		t.Errorf("%v, %v", right.Free, st.Free)
	}
}
