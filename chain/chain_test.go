package chain

import (
	"fmt"
	"math"
	"slices"
	"testing"

	"callboy/api"
)

// built lays lists over so many places, in the chapter's words.
func built(places int, lists ...[]int) State {
	st := State{}
	for range places {
		st.Nodes = append(st.Nodes, Node{-1, -1, -1})
	}
	for list, l := range lists {
		head, tail := -1, -1
		for i, at := range l {
			n := Node{List: list, Next: -1, Prev: -1}
			if i > 0 {
				n.Prev = l[i-1]
			} else {
				head = at
			}
			if i < len(l)-1 {
				n.Next = l[i+1]
			} else {
				tail = at
			}
			st.Nodes[at] = n
		}
		st.Heads = append(st.Heads, head)
		st.Tails = append(st.Tails, tail)
	}
	return st
}

// same is Same in the test's own words.
func same(a, b State) bool {
	return slices.Equal(a.Nodes, b.Nodes) && slices.Equal(a.Heads, b.Heads) && slices.Equal(a.Tails, b.Tails)
}

// cloned shares nothing with st.
func cloned(st State) State {
	return State{Nodes: slices.Clone(st.Nodes), Heads: slices.Clone(st.Heads), Tails: slices.Clone(st.Tails)}
}

// changed is a copy of st with one thing in it changed.
func changed(st State, change func(st *State)) State {
	st = cloned(st)
	change(&st)
	return st
}

// copiedLists shares nothing with l.
func copiedLists(l [][]int) [][]int {
	var c [][]int
	for _, x := range l {
		c = append(c, slices.Clone(x))
	}
	return c
}

// turned is l from behind.
func turned(l []int) []int {
	l = slices.Clone(l)
	slices.Reverse(l)
	return l
}

// numbers are those from 0 to below n.
func numbers(n int) []int {
	var l []int
	for i := range n {
		l = append(l, i)
	}
	return l
}

// two is a state of five places, of which 3 is in no list, and of three lists, of which the last one is empty.
func two() State { return built(5, []int{4, 0, 2}, []int{1}, nil) }

// outside are numbers that are no place of two, and no list.
var outside = []int{math.MinInt, -64, -2, -1, 5, 6, 64, 1 << 40, math.MaxInt}

// refused are states that Check refuses, with its errors.
func refused() map[string]struct {
	st   State
	want api.Errno
} {
	type row = struct {
		st   State
		want api.Errno
	}
	m := map[string]row{
		"nothing":                               {State{}, api.ErrLong},
		"no places":                             {State{Heads: []int{-1}, Tails: []int{-1}}, api.ErrLong},
		"65 places":                             {built(65, nil), api.ErrLong},
		"1000 places":                           {built(1000, nil), api.ErrLong},
		"no lists":                              {built(3), api.ErrLong},
		"9 lists":                               {built(3, make([][]int, 9)...), api.ErrLong},
		"one tail fewer":                        {changed(two(), func(st *State) { st.Tails = st.Tails[:2] }), api.ErrLong},
		"one tail more":                         {changed(two(), func(st *State) { st.Tails = append(st.Tails, -1) }), api.ErrLong},
		"one head fewer":                        {changed(two(), func(st *State) { st.Heads = st.Heads[:2] }), api.ErrLong},
		"no tails":                              {changed(two(), func(st *State) { st.Tails = nil }), api.ErrLong},
		"65, all else wrong":                    {changed(built(65, nil), func(st *State) { st.Nodes[3] = Node{-7, 99, 99}; st.Heads[0] = 99 }), api.ErrLong},
		"a stray link, and a list that is none": {changed(two(), func(st *State) { st.Nodes[3] = Node{-1, 0, -1}; st.Nodes[4].List = 3 }), api.ErrRange},
		"a stray link, and a tail that is none": {changed(two(), func(st *State) { st.Nodes[3] = Node{-1, 0, -1}; st.Tails[2] = 5 }), api.ErrRange},
		"a stray Next":                          {changed(two(), func(st *State) { st.Nodes[3].Next = 0 }), api.ErrForm},
		"a stray Prev":                          {changed(two(), func(st *State) { st.Nodes[3].Prev = 3 }), api.ErrForm},
		"a stray Prev, and a wrong order":       {changed(two(), func(st *State) { st.Nodes[3].Prev = 3; st.Heads[0] = -1 }), api.ErrForm},
		"a member that is in none":              {changed(two(), func(st *State) { st.Nodes[0].List = -1 }), api.ErrForm},
		"a head that is in none":                {changed(two(), func(st *State) { st.Nodes[1].List = -1 }), api.ErrOrder},
		"another head":                          {changed(two(), func(st *State) { st.Heads[0] = 0 }), api.ErrOrder},
		"no head":                               {changed(two(), func(st *State) { st.Heads[1] = -1 }), api.ErrOrder},
		"neither head nor tail":                 {changed(two(), func(st *State) { st.Heads[1], st.Tails[1] = -1, -1 }), api.ErrOrder},
		"another tail":                          {changed(two(), func(st *State) { st.Tails[0] = 0 }), api.ErrOrder},
		"no tail":                               {changed(two(), func(st *State) { st.Tails[1] = -1 }), api.ErrOrder},
		"an empty one's tail":                   {changed(two(), func(st *State) { st.Tails[2] = 3 }), api.ErrOrder},
		"an empty one's head":                   {changed(two(), func(st *State) { st.Heads[2] = 3 }), api.ErrOrder},
		"a wrong Prev":                          {changed(two(), func(st *State) { st.Nodes[2].Prev = 4 }), api.ErrOrder},
		"no Prev":                               {changed(two(), func(st *State) { st.Nodes[0].Prev = -1 }), api.ErrOrder},
		"a head's Prev":                         {changed(two(), func(st *State) { st.Nodes[4].Prev = 2 }), api.ErrOrder},
		"a place that is passed over":           {changed(two(), func(st *State) { st.Nodes[4].Next = 2; st.Nodes[2].Prev = 4 }), api.ErrOrder},
		"a cut list":                            {changed(two(), func(st *State) { st.Nodes[0].Next = -1; st.Tails[0] = 0 }), api.ErrOrder},
		"another one's place":                   {changed(two(), func(st *State) { st.Nodes[2].Next = 1; st.Nodes[1].Prev = 2; st.Tails[0] = 1 }), api.ErrOrder},
		"a place of another List":               {changed(two(), func(st *State) { st.Nodes[2].List = 1 }), api.ErrOrder},
		"a head to itself":                      {changed(two(), func(st *State) { st.Nodes[1].Next = 1 }), api.ErrOrder},
		"a head to itself both ways":            {changed(two(), func(st *State) { st.Nodes[1].Next, st.Nodes[1].Prev = 1, 1 }), api.ErrOrder},
		"a tail to itself":                      {changed(two(), func(st *State) { st.Nodes[2].Next = 2 }), api.ErrOrder},
		"a tail to the head":                    {changed(two(), func(st *State) { st.Nodes[2].Next = 4 }), api.ErrOrder},
		"a ring":                                {changed(two(), func(st *State) { st.Nodes[2].Next = 4; st.Nodes[4].Prev = 2 }), api.ErrOrder},
		"a ring behind the head":                {changed(two(), func(st *State) { st.Nodes[2].Next = 0 }), api.ErrOrder},
		"a ring beside a list":                  {changed(two(), func(st *State) { st.Nodes[3] = Node{2, 3, 3} }), api.ErrOrder},
		"a ring of two beside a list":           {changed(built(4, []int{2}), func(st *State) { st.Nodes[0] = Node{0, 1, 1}; st.Nodes[1] = Node{0, 0, 0} }), api.ErrOrder},
		"two lists over one place":              {State{Nodes: []Node{{0, -1, -1}}, Heads: []int{0, 0}, Tails: []int{0, 0}}, api.ErrOrder},
		"the last of all lists is at odds":      {changed(built(64, make([][]int, 8)...), func(st *State) { st.Nodes[63].List = 7 }), api.ErrOrder},
	}
	for _, n := range []int{math.MinInt, -64, -2, 5, 64, math.MaxInt} {
		m[fmt.Sprint("a Next ", n)] = row{changed(two(), func(st *State) { st.Nodes[4].Next = n }), api.ErrRange}
		m[fmt.Sprint("a Prev ", n)] = row{changed(two(), func(st *State) { st.Nodes[1].Prev = n }), api.ErrRange}
		m[fmt.Sprint("a stray Next ", n)] = row{changed(two(), func(st *State) { st.Nodes[3].Next = n }), api.ErrRange}
		m[fmt.Sprint("a stray Prev ", n)] = row{changed(two(), func(st *State) { st.Nodes[3].Prev = n }), api.ErrRange}
		m[fmt.Sprint("a head ", n)] = row{changed(two(), func(st *State) { st.Heads[0] = n }), api.ErrRange}
		m[fmt.Sprint("the last head ", n)] = row{changed(two(), func(st *State) { st.Heads[2] = n }), api.ErrRange}
		m[fmt.Sprint("a tail ", n)] = row{changed(two(), func(st *State) { st.Tails[2] = n }), api.ErrRange}
	}
	for _, n := range []int{math.MinInt, -2, 3, 4, 8, math.MaxInt} {
		m[fmt.Sprint("a List ", n)] = row{changed(two(), func(st *State) { st.Nodes[3].List = n }), api.ErrRange}
		m[fmt.Sprint("a member's List ", n)] = row{changed(two(), func(st *State) { st.Nodes[4].List = n }), api.ErrRange}
	}
	return m
}

// P4.1

func TestNew(t *testing.T) {
	for places := 1; places <= 64; places++ {
		for lists := 1; lists <= 8; lists++ {
			st, e := New(places, lists)
			if e != api.OK || !same(st, built(places, make([][]int, lists)...)) || Check(st) != api.OK {
				t.Errorf("New(%d, %d) = %+v %d", places, lists, st, int(e))
			}
		}
	}
}

func TestNewOutOfRange(t *testing.T) {
	for _, x := range [][2]int{
		{0, 1}, {-1, 1}, {65, 1}, {math.MinInt, 8}, {math.MaxInt, 8},
		{1, 0}, {1, -1}, {1, 9}, {64, 64}, {64, math.MinInt}, {64, math.MaxInt}, {0, 0}, {65, 9},
	} {
		st, e := New(x[0], x[1])
		if e != api.ErrRange || st.Nodes != nil || st.Heads != nil || st.Tails != nil {
			t.Errorf("New(%d, %d) = %+v %d", x[0], x[1], st, int(e))
		}
	}
}

func TestCheckRefuses(t *testing.T) {
	for name, x := range refused() {
		if e := Check(x.st); e != x.want {
			t.Errorf("%s: %d, want %d", name, int(e), int(x.want))
		}
	}
}

func TestCheckAllows(t *testing.T) {
	for _, st := range []State{
		two(),
		built(1, nil),
		built(1, []int{0}),
		built(2, []int{1, 0}),
		built(2, nil, []int{0, 1}),
		built(64, numbers(64)),
		built(64, nil, nil, nil, nil, nil, nil, nil, turned(numbers(64))),
		built(64, make([][]int, 8)...),
	} {
		if e := Check(st); e != api.OK {
			t.Errorf("%+v: %d", st, int(e))
		}
	}
}

// key is a state as something that a map holds against others.
func key(st State) string { return fmt.Sprint(st.Nodes, st.Heads, st.Tails) }

// allStates are all that may be of so many places and lists, each place put behind each list in each order.
func allStates(places, lists int) map[string]State {
	all := map[string]State{}
	var grow func(l [][]int, used map[int]bool)
	grow = func(l [][]int, used map[int]bool) {
		st := built(places, l...)
		all[key(st)] = st
		for at := range places {
			for list := range lists {
				if used[at] {
					continue
				}
				used[at] = true
				longer := copiedLists(l)
				longer[list] = append(longer[list], at)
				grow(longer, used)
				used[at] = false
			}
		}
	}
	grow(make([][]int, lists), map[int]bool{})
	return all
}

// formWrong tells by the chapter's words whether one in no list has a Next or Prev.
func formWrong(st State) bool {
	return slices.ContainsFunc(st.Nodes, func(n Node) bool { return n.List == -1 && (n.Next != -1 || n.Prev != -1) })
}

// checkAll goes over all states of so many places and lists whose numbers are in range.
func checkAll(t *testing.T, places, lists int) {
	good := allStates(places, lists)
	var st State
	fields := []int{}
	for range places {
		fields = append(fields, lists, places, places)
	}
	for range 2 * lists {
		fields = append(fields, places)
	}
	values := make([]int, len(fields))
	found := 0
	for done := false; !done; {
		st = State{}
		for p := range places {
			st.Nodes = append(st.Nodes, Node{values[3*p] - 1, values[3*p+1] - 1, values[3*p+2] - 1})
		}
		for l := range lists {
			st.Heads = append(st.Heads, values[3*places+2*l]-1)
			st.Tails = append(st.Tails, values[3*places+2*l+1]-1)
		}
		e := Check(st)
		switch {
		case e == api.OK:
			found++
			if _, ok := good[key(st)]; !ok {
				t.Fatalf("%+v may not be", st)
			}
		case formWrong(st) && e != api.ErrForm || !formWrong(st) && e != api.ErrOrder:
			t.Fatalf("%+v: %d", st, int(e))
		}
		done = true
		for i := range values {
			if values[i]++; values[i] <= fields[i] {
				done = false
				break
			}
			values[i] = 0
		}
	}
	if found != len(good) {
		t.Errorf("%d places, %d lists: %d states may be, not %d", places, lists, found, len(good))
	}
}

func TestCheckOfAllSmallStates(t *testing.T) {
	checkAll(t, 1, 1)
	checkAll(t, 1, 3)
	checkAll(t, 2, 1)
	checkAll(t, 2, 2)
	checkAll(t, 3, 1)
}

func TestSame(t *testing.T) {
	one := two()
	if !Same(one, cloned(one)) {
		t.Error("a copy is another")
	}
	others := []State{
		{}, {Nodes: one.Nodes}, {Heads: one.Heads}, {Tails: one.Tails},
		{Nodes: one.Nodes, Heads: one.Heads}, {Nodes: one.Nodes, Tails: one.Tails}, {Heads: one.Heads, Tails: one.Tails},
		changed(one, func(st *State) { st.Nodes[4].List = 1 }),
		changed(one, func(st *State) { st.Nodes[3].Next = 1 }),
		changed(one, func(st *State) { st.Nodes[0].Prev = 1 }),
		changed(one, func(st *State) { st.Heads[2] = 1 }),
		changed(one, func(st *State) { st.Tails[0] = 1 }),
		changed(one, func(st *State) { st.Nodes = append(st.Nodes, Node{-1, -1, -1}) }),
		changed(one, func(st *State) { st.Nodes = st.Nodes[:4] }),
		changed(one, func(st *State) { st.Heads = append(st.Heads, -1) }),
		changed(one, func(st *State) { st.Tails = st.Tails[:2] }),
	}
	for _, x := range others {
		if Same(one, x) || Same(x, one) || !Same(x, cloned(x)) {
			t.Errorf("%+v", x)
		}
	}
	empty := State{Nodes: []Node{}, Heads: []int{}, Tails: []int{}}
	if !Same(State{}, empty) || !Same(empty, State{}) {
		t.Error("empty lists are not nil")
	}
}

// P4.2

func TestPush(t *testing.T) {
	st := two()
	for list, want := range []State{
		built(5, []int{4, 0, 2, 3}, []int{1}, nil),
		built(5, []int{4, 0, 2}, []int{1, 3}, nil),
		built(5, []int{4, 0, 2}, []int{1}, []int{3}),
	} {
		if next, e := Push(st, list, 3); e != api.OK || !same(next, want) {
			t.Errorf("Push(%d, 3) = %+v %d", list, next, int(e))
		}
	}
}

func TestPushAllPlaces(t *testing.T) {
	lists := make([][]int, 8)
	st := built(64, lists...)
	for i := range 64 {
		at, list := i*27%64, i*i%8
		var e api.Errno
		st, e = Push(st, list, at)
		lists[list] = append(lists[list], at)
		if e != api.OK || !same(st, built(64, lists...)) {
			t.Fatalf("Push(%d, %d): %+v %d", list, at, st, int(e))
		}
	}
}

func TestPushRefuses(t *testing.T) {
	st := two()
	refuse := func(list, at int, want api.Errno) {
		if next, e := Push(st, list, at); e != want || !same(next, two()) {
			t.Errorf("Push(%d, %d) = %+v %d, want %d", list, at, next, int(e), int(want))
		}
	}
	for _, n := range append(outside, 3, 4) {
		refuse(n, 3, api.ErrRange)
		refuse(n, 0, api.ErrRange)
	}
	for _, n := range outside {
		refuse(0, n, api.ErrRange)
		refuse(n, n, api.ErrRange)
	}
	for list := range 3 {
		for _, at := range []int{0, 1, 2, 4} {
			refuse(list, at, api.ErrThere)
		}
	}
}

func TestUnlink(t *testing.T) {
	st := two()
	for at, want := range map[int]State{
		4: built(5, []int{0, 2}, []int{1}, nil),
		0: built(5, []int{4, 2}, []int{1}, nil),
		2: built(5, []int{4, 0}, []int{1}, nil),
		1: built(5, []int{4, 0, 2}, nil, nil),
	} {
		if next, e := Unlink(st, at); e != api.OK || !same(next, want) {
			t.Errorf("Unlink(%d) = %+v %d", at, next, int(e))
		}
	}
	if next, e := Unlink(st, 3); e != api.ErrNone || !same(next, two()) {
		t.Errorf("Unlink(3) = %+v %d", next, int(e))
	}
	for _, at := range outside {
		if next, e := Unlink(st, at); e != api.ErrRange || !same(next, two()) {
			t.Errorf("Unlink(%d) = %+v %d", at, next, int(e))
		}
	}
}

func TestTurn(t *testing.T) {
	for _, x := range []struct {
		st   State
		list int
		want State
	}{
		{two(), 0, built(5, []int{0, 2, 4}, []int{1}, nil)},
		{two(), 1, two()},
		{two(), 2, two()},
		{built(2, []int{1, 0}), 0, built(2, []int{0, 1})},
		{built(64, nil, numbers(64)), 1, built(64, nil, append(numbers(64)[1:], 0))},
	} {
		if next := Turn(x.st, x.list); !same(next, x.want) {
			t.Errorf("Turn(%+v, %d) = %+v", x.st, x.list, next)
		}
	}
	for _, list := range append(outside, 3, 4) {
		if next := Turn(two(), list); !same(next, two()) {
			t.Errorf("Turn(%d) = %+v", list, next)
		}
	}
}

func TestSplice(t *testing.T) {
	for _, x := range []struct {
		st       State
		from, to int
		want     State
	}{
		{two(), 0, 1, built(5, nil, []int{1, 4, 0, 2}, nil)},
		{two(), 1, 0, built(5, []int{4, 0, 2, 1}, nil, nil)},
		{two(), 0, 2, built(5, nil, []int{1}, []int{4, 0, 2})},
		{two(), 2, 0, two()},
		{built(3, nil, nil), 0, 1, built(3, nil, nil)},
		{built(64, numbers(64)[:40], nil, turned(numbers(64)[40:])), 2, 0, built(64, append(numbers(64)[:40], turned(numbers(64)[40:])...), nil, nil)},
	} {
		if next, e := Splice(x.st, x.from, x.to); e != api.OK || !same(next, x.want) {
			t.Errorf("Splice(%+v, %d, %d) = %+v %d", x.st, x.from, x.to, next, int(e))
		}
	}
}

func TestSpliceRefuses(t *testing.T) {
	st := two()
	refuse := func(from, to int, want api.Errno) {
		if next, e := Splice(st, from, to); e != want || !same(next, two()) {
			t.Errorf("Splice(%d, %d) = %+v %d, want %d", from, to, next, int(e), int(want))
		}
	}
	for _, n := range append(outside, 3, 4) {
		refuse(n, 0, api.ErrRange)
		refuse(0, n, api.ErrRange)
		refuse(n, n, api.ErrRange)
	}
	for list := range 3 {
		refuse(list, list, api.ErrArg)
	}
}

func TestRefusedStatesStayAsTheyWere(t *testing.T) {
	for name, x := range refused() {
		was := cloned(x.st)
		told := func(call string, st State, e api.Errno) {
			if e != x.want || !same(st, was) || !same(x.st, was) {
				t.Errorf("%s: %s = %+v %d, want %d", name, call, st, int(e), int(x.want))
			}
		}
		for _, n := range []int{0, 1, 3, -1, 99} {
			st, e := Push(x.st, 0, n)
			told("Push", st, e)
			st, e = Unlink(x.st, n)
			told("Unlink", st, e)
			st, e = Splice(x.st, n, 0)
			told("Splice", st, e)
			told("Turn", Turn(x.st, n), x.want)
			if f, w, b, m := Front(x.st, n), Walk(x.st, n), Back(x.st, n), Len(x.st, n); f != -1 || len(w) != 0 || len(b) != 0 || m != 0 {
				t.Errorf("%s: list %d tells %d %v %v %d", name, n, f, w, b, m)
			}
		}
	}
}

// P4.3

// tells holds what is told of a list against what it should be.
func tells(t *testing.T, st State, list int, want []int) {
	t.Helper()
	front := -1
	if len(want) > 0 {
		front = want[0]
	}
	if f, n := Front(st, list), Len(st, list); f != front || n != len(want) {
		t.Errorf("list %d: front %d, %d places, want %v", list, f, n, want)
	}
	if w, b := Walk(st, list), Back(st, list); !slices.Equal(w, want) || !slices.Equal(b, turned(want)) {
		t.Errorf("list %d: %v, from behind %v, want %v", list, w, b, want)
	}
}

func TestWhatIsTold(t *testing.T) {
	tells(t, two(), 0, []int{4, 0, 2})
	tells(t, two(), 1, []int{1})
	tells(t, two(), 2, nil)
	for _, list := range append(outside, 3, 4) {
		tells(t, two(), list, nil)
	}
	tells(t, built(64, nil, turned(numbers(64))), 1, turned(numbers(64)))
}

// P4.4

func TestExample(t *testing.T) {
	st, _ := New(4, 2)
	st, _ = Push(st, 0, 3)
	st, _ = Push(st, 0, 1)
	if l := Walk(st, 0); !slices.Equal(l, []int{3, 1}) {
		t.Error(l)
	}
}

// dice tells numbers below n, the same ones each time.
func dice(seed uint64) func(n int) int {
	return func(n int) int {
		seed = seed*6364136223846793005 + 1442695040888963407
		return int(seed >> 33 % uint64(n))
	}
}

// model does what the calls do on lists that are written out.
type model struct {
	places int
	lists  [][]int
}

func (m *model) listOf(at int) int {
	return slices.IndexFunc(m.lists, func(l []int) bool { return slices.Contains(l, at) })
}

func (m *model) push(list, at int) api.Errno {
	if list >= len(m.lists) || at >= m.places {
		return api.ErrRange
	}
	if m.listOf(at) >= 0 {
		return api.ErrThere
	}
	m.lists[list] = append(m.lists[list], at)
	return api.OK
}

func (m *model) unlink(at int) api.Errno {
	if at >= m.places {
		return api.ErrRange
	}
	list := m.listOf(at)
	if list < 0 {
		return api.ErrNone
	}
	m.lists[list] = slices.DeleteFunc(m.lists[list], func(x int) bool { return x == at })
	return api.OK
}

func (m *model) turn(list int) {
	if list < len(m.lists) && len(m.lists[list]) > 0 {
		l := m.lists[list]
		m.lists[list] = append(slices.Clone(l[1:]), l[0])
	}
}

func (m *model) splice(from, to int) api.Errno {
	if from >= len(m.lists) || to >= len(m.lists) {
		return api.ErrRange
	}
	if from == to {
		return api.ErrArg
	}
	m.lists[to] = append(m.lists[to], m.lists[from]...)
	m.lists[from] = nil
	return api.OK
}

func TestALongWalk(t *testing.T) {
	for seed, x := range [][2]int{{1, 1}, {2, 2}, {5, 3}, {17, 8}, {64, 2}, {64, 8}} {
		roll := dice(uint64(seed))
		m := &model{places: x[0], lists: make([][]int, x[1])}
		st, _ := New(x[0], x[1])
		for step := range 3000 {
			at, list, other := roll(x[0]+1), roll(x[1]+1), roll(x[1]+1)
			e, want := api.OK, api.OK
			switch roll(20) {
			case 0:
				want = m.splice(list, other)
				st, e = Splice(st, list, other)
			case 1, 2, 3, 4, 5, 6:
				want = m.unlink(at)
				st, e = Unlink(st, at)
			case 7, 8, 9:
				m.turn(list)
				st = Turn(st, list)
			default:
				want = m.push(list, at)
				st, e = Push(st, list, at)
			}
			if e != want || Check(st) != api.OK || !same(st, built(m.places, m.lists...)) {
				t.Fatalf("%v, step %d: %+v %d, want %v %d", x, step, st, int(e), m.lists, int(want))
			}
			for list, l := range m.lists {
				tells(t, st, list, l)
			}
		}
	}
}

func TestAllSmallStatesAreReachedAndStay(t *testing.T) {
	all := allStates(3, 2)
	st, _ := New(3, 2)
	seen := map[string]bool{key(st): true}
	for work := []State{st}; len(work) > 0; work = work[1:] {
		var next []State
		for at := range 3 {
			for list := range 2 {
				if st, e := Push(work[0], list, at); e == api.OK {
					next = append(next, st)
				}
				next = append(next, Turn(work[0], list))
			}
			if st, e := Unlink(work[0], at); e == api.OK {
				next = append(next, st)
			}
		}
		if st, e := Splice(work[0], 0, 1); e == api.OK {
			next = append(next, st)
		}
		for _, st := range next {
			if _, ok := all[key(st)]; !ok {
				t.Fatalf("%+v may not be", st)
			}
			if !seen[key(st)] {
				seen[key(st)] = true
				work = append(work, st)
			}
		}
	}
	if len(seen) != len(all) {
		t.Errorf("%d states are reached, of %d", len(seen), len(all))
	}
}

// Rule 3: an argument is not changed, and an answer is new memory.

// roomy is st with filled room behind its lists, and whether that and they are as they were.
func roomy(st State) (State, func() bool) {
	nodes := append(slices.Clone(st.Nodes), Node{77, 77, 77}, Node{78, 78, 78})
	heads := append(slices.Clone(st.Heads), 77, 78)
	tails := append(slices.Clone(st.Tails), 77, 78)
	all := State{Nodes: nodes, Heads: heads, Tails: tails}
	was := cloned(all)
	untouched := func() bool { return same(all, was) }
	return State{Nodes: nodes[:len(st.Nodes)], Heads: heads[:len(st.Heads)], Tails: tails[:len(st.Tails)]}, untouched
}

// fill overwrites a list, and its spare room.
func fill[T any](l []T, x T) {
	l = l[:cap(l)]
	for i := range l {
		l[i] = x
	}
}

// spoil overwrites all that an answer has.
func spoil(st State) {
	fill(st.Nodes, Node{99, 99, 99})
	fill(st.Heads, 99)
	fill(st.Tails, 99)
}

func TestAnswersAreNewMemory(t *testing.T) {
	for name, call := range map[string]func(State) State{
		"Push":             func(st State) State { st, _ = Push(st, 2, 3); return st },
		"Unlink":           func(st State) State { st, _ = Unlink(st, 0); return st },
		"Turn":             func(st State) State { return Turn(st, 0) },
		"Splice":           func(st State) State { st, _ = Splice(st, 0, 1); return st },
		"Splice of a none": func(st State) State { st, _ = Splice(st, 2, 1); return st },
	} {
		given, untouched := roomy(two())
		next := call(given)
		if !untouched() {
			t.Errorf("%s changed what it was given", name)
		}
		spoil(next)
		if !untouched() {
			t.Errorf("what %s told is in the argument's memory", name)
		}
	}
	given, untouched := roomy(two())
	fill(Walk(given, 0), 99)
	fill(Back(given, 0), 99)
	if !untouched() {
		t.Error("places that are told are in the argument's memory")
	}
	a, _ := New(3, 2)
	b, _ := New(3, 2)
	spoil(a)
	if !same(b, built(3, nil, nil)) {
		t.Error("two new states share memory")
	}
}

func TestErrorsChangeNothing(t *testing.T) {
	given, untouched := roomy(two())
	Push(given, 0, 4)
	Push(given, 9, 3)
	Unlink(given, 3)
	Unlink(given, -1)
	Splice(given, 1, 1)
	Splice(given, 1, 9)
	Turn(given, 2)
	Turn(given, 9)
	if !untouched() {
		t.Error("a call that is refused changed what it was given")
	}
}

func TestTwoWaysFromOneState(t *testing.T) {
	st := two()
	left, _ := Push(st, 0, 3)
	right, _ := Push(st, 1, 3)
	right, _ = Splice(right, 0, 1)
	if !same(left, built(5, []int{4, 0, 2, 3}, []int{1}, nil)) || !same(right, built(5, nil, []int{1, 3, 4, 0, 2}, nil)) || !same(st, two()) {
		t.Errorf("%+v, %+v of %+v", left, right, st)
	}
}
