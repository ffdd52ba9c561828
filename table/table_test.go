package table

import (
	"maps"
	"math"
	"slices"
	"strings"
	"testing"

	"callboy/api"
)

// The slots to which keys of one letter belong, where there are eight (worked out apart from the program):
// e m 0, f n 1, c k s 2, d l t 3, a i q 4, b j r 5, g o 6, h p x 7. That of no bytes belongs to 5.

// made is a table that New made.
func made(t *testing.T, room int) *Table {
	t.Helper()
	x, e := New(room)
	if e != api.OK || x == nil {
		t.Fatalf("New(%d) = %v %d", room, x, int(e))
	}
	return x
}

// filled is a table of so much room into which the letters of keys were put one behind the other, a with 1, b with 2.
func filled(t *testing.T, room int, keys string) *Table {
	t.Helper()
	x := made(t, room)
	for _, c := range keys {
		if e := x.Put(string(c), int(c-'a')+1); e != api.OK {
			t.Fatalf("Put(%c) = %d", c, int(e))
		}
	}
	return x
}

// slotsOf is what a table's slots hold, a letter each, or a dot where there is no key.
func slotsOf(x *Table) string {
	s := ""
	for _, key := range x.Slots() {
		if key == "" {
			key = "."
		}
		s += key
	}
	return s
}

// belongs is the slot to which a key belongs, as the chapter on hash says it.
func belongs(key string, room int) int {
	h := uint32(2166136261)
	for _, b := range []byte(key) {
		h = (h ^ uint32(b)) * 16777619
	}
	return int(h % uint32(room))
}

// holds looks by all that asks, whether a table of so much room has just these entries, each in a slot where it may be.
func holds(t *testing.T, x *Table, room int, want map[string]int) {
	t.Helper()
	if x.Len() != len(want) || x.Full() != (len(want) == room*3/4) {
		t.Fatalf("Len %d, Full %v, want %d of %d", x.Len(), x.Full(), len(want), room)
	}
	l := x.All()
	if len(l) != len(want) {
		t.Fatalf("All = %v, want %v", l, want)
	}
	for i, key := range slices.Sorted(maps.Keys(want)) {
		if l[i].Key != key || l[i].Value != want[key] {
			t.Fatalf("All = %v, want %v", l, want)
		}
		if n, ok := x.Get(key); n != want[key] || !ok {
			t.Fatalf("Get(%q) = %d %v, want %d", key, n, ok, want[key])
		}
	}
	stand(t, x, room, want)
}

// stand looks whether each entry stands in a slot from its own one on, without one between that has none.
func stand(t *testing.T, x *Table, room int, want map[string]int) {
	t.Helper()
	slots := x.Slots()
	if len(slots) != room {
		t.Fatalf("%d slots, want %d", len(slots), room)
	}
	// The key of no bytes looks like none: it is told by Where alone.
	taken := make([]int, room)
	for key := range want {
		at := x.Where(key)
		if at < 0 || at >= room || slots[at] != key || taken[at] > 0 {
			t.Fatalf("Where(%q) = %d of %q", key, at, slots)
		}
		taken[at]++
	}
	for i, key := range slots {
		if key != "" && taken[i] == 0 {
			t.Fatalf("slot %d has %q, which is not there", i, key)
		}
	}
	for key := range want {
		for at := belongs(key, room); at != x.Where(key); at = (at + 1) % room {
			if taken[at] == 0 {
				t.Fatalf("%q belongs to %d and stands in %d, but %d has none: %q", key, belongs(key, room), x.Where(key), at, slots)
			}
		}
	}
}

// missing looks whether a key is not there.
func missing(t *testing.T, x *Table, key string) {
	t.Helper()
	if n, ok := x.Get(key); n != 0 || ok {
		t.Errorf("Get(%q) = %d %v", key, n, ok)
	}
	if at := x.Where(key); at != -1 {
		t.Errorf("Where(%q) = %d", key, at)
	}
	if x.Del(key) {
		t.Errorf("Del(%q), which is not there", key)
	}
}

// P7.1

func TestNew(t *testing.T) {
	for room := 2; room <= 256; room++ {
		x := made(t, room)
		holds(t, x, room, nil)
		missing(t, x, "")
		missing(t, x, "a")
		if s := slotsOf(x); s != strings.Repeat(".", room) {
			t.Errorf("slots %s of %d", s, room)
		}
	}
}

func TestNewOutOfRange(t *testing.T) {
	for _, room := range []int{math.MinInt, -256, -2, -1, 0, 1, 257, 258, 512, 1 << 32, 1<<32 + 2, math.MaxInt} {
		if x, e := New(room); x != nil || e != api.ErrRange {
			t.Errorf("New(%d) = %v %d", room, x, int(e))
		}
	}
}

func TestFull(t *testing.T) {
	for room, most := range map[int]int{2: 1, 3: 2, 4: 3, 5: 3, 6: 4, 7: 5, 8: 6, 9: 6, 255: 191, 256: 192} {
		x, want := made(t, room), map[string]int{}
		for i := range most {
			if x.Full() || x.Len() != i {
				t.Fatalf("%d of %d: Full %v, Len %d", i, room, x.Full(), x.Len())
			}
			key := "key" + string(rune(0x100+i))
			if e := x.Put(key, i); e != api.OK {
				t.Fatalf("Put %d of %d = %d", i, room, int(e))
			}
			want[key] = i
		}
		if !x.Full() || x.Len() != most {
			t.Fatalf("%d of %d: Full %v, Len %d", most, room, x.Full(), x.Len())
		}
		if e := x.Put("another", 1); e != api.ErrFull {
			t.Errorf("Put beyond %d of %d = %d", most, room, int(e))
		}
		holds(t, x, room, want)
		if !x.Del("key\u0100") || x.Full() {
			t.Errorf("one of %d went: Full %v", most, x.Full())
		}
	}
}

func TestNil(t *testing.T) {
	var x *Table
	for _, key := range []string{"", "a", strings.Repeat("a", 64), strings.Repeat("a", 65)} {
		if e := x.Put(key, 1); e != api.ErrNil {
			t.Errorf("Put = %d", int(e))
		}
		if n, e := x.Add(key, 1); n != 0 || e != api.ErrNil {
			t.Errorf("Add = %d %d", n, int(e))
		}
		missing(t, x, key)
	}
	x.Clear()
	if x.Len() != 0 || !x.Full() || len(x.All()) != 0 || len(x.Slots()) != 0 {
		t.Errorf("Len %d, Full %v, All %v, Slots %v", x.Len(), x.Full(), x.All(), x.Slots())
	}
}

// P7.2

func TestPut(t *testing.T) {
	x := made(t, 8)
	numbers := []int{0, 1, -1, math.MinInt, math.MaxInt, 1<<40 + 1, 0}
	for _, n := range numbers {
		if e := x.Put("a", n); e != api.OK {
			t.Fatalf("Put = %d", int(e))
		}
		holds(t, x, 8, map[string]int{"a": n})
	}
	x.Put("b", 5)
	x.Put("a", 6)
	holds(t, x, 8, map[string]int{"a": 6, "b": 5})
}

func TestKeys(t *testing.T) {
	x, want := made(t, 16), map[string]int{}
	for i, key := range []string{"", "\x00", "\xff", "a", "A", "ab", strings.Repeat("a", 63), strings.Repeat("a", 64), "\u00e9"} {
		if e := x.Put(key, i); e != api.OK {
			t.Fatalf("Put(%q) = %d", key, int(e))
		}
		want[key] = i
		holds(t, x, 16, want)
	}
	for key := range want {
		if !x.Del(key) {
			t.Errorf("Del(%q)", key)
		}
		missing(t, x, key)
		delete(want, key)
		holds(t, x, 16, want)
	}
}

func TestKeyOfNoBytes(t *testing.T) {
	x := made(t, 8)
	missing(t, x, "")
	x.Put("", 7)
	holds(t, x, 8, map[string]int{"": 7})
	if at := x.Where(""); at != 5 {
		t.Errorf("it belongs to 5, and stands in %d", at)
	}
	x.Put("b", 2)
	if at := x.Where("b"); at != 6 {
		t.Errorf("b belongs to 5, which is taken, and stands in %d", at)
	}
	if n, e := x.Add("", 3); n != 10 || e != api.OK {
		t.Errorf("Add = %d %d", n, int(e))
	}
	if !x.Del("") || x.Where("b") != 5 {
		t.Errorf("b stands in %d", x.Where("b"))
	}
	missing(t, x, "")
}

func TestTooLong(t *testing.T) {
	x := filled(t, 8, "ab")
	for _, n := range []int{65, 66, 128, 1000} {
		key := strings.Repeat("a", n)
		if e := x.Put(key, 1); e != api.ErrLong {
			t.Errorf("Put of %d bytes = %d", n, int(e))
		}
		if n, e := x.Add(key, 1); n != 0 || e != api.ErrLong {
			t.Errorf("Add of %d bytes = %d %d", len(key), n, int(e))
		}
		missing(t, x, key)
	}
	holds(t, x, 8, map[string]int{"a": 1, "b": 2})
	// Bytes count, not characters.
	if e := x.Put(strings.Repeat("\u00e9", 32), 1); e != api.OK {
		t.Errorf("32 characters of two bytes = %d", int(e))
	}
	if e := x.Put(strings.Repeat("\u00e9", 33), 1); e != api.ErrLong {
		t.Errorf("33 characters of two bytes = %d", int(e))
	}
}

func TestPutAndAddToFull(t *testing.T) {
	x := filled(t, 4, "abc")
	if e := x.Put("d", 1); e != api.ErrFull {
		t.Errorf("Put = %d", int(e))
	}
	if n, e := x.Add("d", 1); n != 0 || e != api.ErrFull {
		t.Errorf("Add = %d %d", n, int(e))
	}
	// The length is told first.
	if e := x.Put(strings.Repeat("d", 65), 1); e != api.ErrLong {
		t.Errorf("Put of 65 bytes = %d", int(e))
	}
	if n, e := x.Add(strings.Repeat("d", 65), 1); n != 0 || e != api.ErrLong {
		t.Errorf("Add of 65 bytes = %d %d", n, int(e))
	}
	missing(t, x, "d")
	holds(t, x, 4, map[string]int{"a": 1, "b": 2, "c": 3})
	// What is there has room.
	if e := x.Put("b", 9); e != api.OK {
		t.Errorf("Put = %d", int(e))
	}
	if n, e := x.Add("c", 4); n != 7 || e != api.OK {
		t.Errorf("Add = %d %d", n, int(e))
	}
	holds(t, x, 4, map[string]int{"a": 1, "b": 9, "c": 7})
	// Who goes leaves room.
	if !x.Del("a") || x.Put("d", 4) != api.OK {
		t.Error("d has room then")
	}
	holds(t, x, 4, map[string]int{"b": 9, "c": 7, "d": 4})
}

func TestAdd(t *testing.T) {
	x := made(t, 8)
	for _, step := range []struct{ n, want int }{{5, 5}, {0, 5}, {-7, -2}, {2, 0}, {0, 0}, {1, 1}} {
		if n, e := x.Add("a", step.n); n != step.want || e != api.OK {
			t.Fatalf("Add(%d) = %d %d, want %d", step.n, n, int(e), step.want)
		}
		holds(t, x, 8, map[string]int{"a": step.want})
	}
	if n, e := x.Add("b", 0); n != 0 || e != api.OK {
		t.Errorf("Add(0) = %d %d", n, int(e))
	}
	holds(t, x, 8, map[string]int{"a": 1, "b": 0})
}

func TestAddHeld(t *testing.T) {
	const most = 1099511627776
	for _, c := range []struct{ has, n, want int }{
		{0, most, most}, {0, most - 1, most - 1}, {0, most + 1, most}, {0, math.MaxInt, most},
		{0, -most, -most}, {0, -most + 1, -most + 1}, {0, -most - 1, -most}, {0, math.MinInt, -most},
		{1, most, most}, {1, most - 1, most}, {-1, -most, -most}, {-1, most, most - 1}, {1, -most, -most + 1},
		{most, 1, most}, {most, -1, most - 1}, {most, most, most}, {most, -most, 0}, {-most, -most, -most},
		{math.MaxInt, math.MaxInt, most}, {math.MaxInt, math.MinInt, 0}, {math.MinInt, math.MinInt, -most},
		{math.MaxInt, -5, most - 5}, {math.MinInt, 5, -most + 5}, {most + 7, -7, most - 7}, {-most - 7, 7, -most + 7},
		{math.MaxInt, 0, most}, {math.MinInt, 0, -most}, {3, math.MinInt, -most + 3}, {-3, math.MaxInt, most - 3},
	} {
		x := made(t, 8)
		x.Put("a", c.has)
		if n, e := x.Add("a", c.n); n != c.want || e != api.OK {
			t.Errorf("%d and %d = %d %d, want %d", c.has, c.n, n, int(e), c.want)
		}
		holds(t, x, 8, map[string]int{"a": c.want})
		if c.has != 0 {
			continue
		}
		x = made(t, 8)
		if n, e := x.Add("a", c.n); n != c.want || e != api.OK {
			t.Errorf("none and %d = %d %d, want %d", c.n, n, int(e), c.want)
		}
		holds(t, x, 8, map[string]int{"a": c.want})
	}
}

func TestDel(t *testing.T) {
	x := filled(t, 8, "abc")
	missing(t, x, "d")
	if !x.Del("b") || x.Del("b") {
		t.Error("b goes once")
	}
	missing(t, x, "b")
	holds(t, x, 8, map[string]int{"a": 1, "c": 3})
	if n, e := x.Add("b", 4); n != 4 || e != api.OK {
		t.Errorf("what went is added to: %d %d", n, int(e))
	}
	holds(t, x, 8, map[string]int{"a": 1, "b": 4, "c": 3})
}

// P7.3

func TestWhereAndSlots(t *testing.T) {
	for _, c := range []struct{ keys, want string }{
		{"", "........"},
		{"a", "....a..."},
		{"em", "em......"},
		{"me", "me......"},
		{"hpx", "px.....h"}, // the last slot is ahead of the first one
		{"heh", "e......h"}, // h is put again, and stays
		{"hepm", "epm....h"},
		{"cksdlt", "..cksdlt"},
		{"tldskc", "..stldkc"},
		{"aibgoh", "oh..aibg"},
		{"gohpxe", "hpxe..go"},
	} {
		x := filled(t, 8, c.keys)
		if s := slotsOf(x); s != c.want {
			t.Errorf("%s: %s, want %s", c.keys, s, c.want)
		}
		for i, key := range x.Slots() {
			if key != "" && x.Where(key) != i {
				t.Errorf("%s: Where(%s) = %d, want %d", c.keys, key, x.Where(key), i)
			}
		}
	}
}

func TestWhereOfOtherRooms(t *testing.T) {
	for room, want := range map[int]int{2: 0, 4: 0, 8: 4, 256: 44} {
		x := filled(t, room, "a")
		if at := x.Where("a"); at != want || x.Slots()[want] != "a" || len(x.Slots()) != room {
			t.Errorf("a stands in %d of %d, want %d", at, room, want)
		}
	}
}

func TestAll(t *testing.T) {
	x := made(t, 16)
	for i, key := range []string{"b", "a", "ab", "\xff", "", "\u00e9", "B", "aa"} {
		x.Put(key, i)
	}
	want := []Entry{{"", 4}, {"B", 6}, {"a", 1}, {"aa", 7}, {"ab", 2}, {"b", 0}, {"\u00e9", 5}, {"\xff", 3}}
	if l := x.All(); !slices.Equal(l, want) {
		t.Errorf("All = %v, want %v", l, want)
	}
}

func TestAnswersAreNewMemory(t *testing.T) {
	x := filled(t, 8, "cab")
	l, keys := x.All(), x.Slots()
	for _, spare := range [][]Entry{l[:cap(l)], x.All()} {
		for i := range spare {
			spare[i] = Entry{"z", 99}
		}
	}
	for i := range keys[:cap(keys)] {
		keys[:cap(keys)][i] = "z"
	}
	holds(t, x, 8, map[string]int{"a": 1, "b": 2, "c": 3})
	l, keys = x.All(), x.Slots()
	x.Del("a")
	x.Put("b", 7)
	x.Clear()
	if !slices.Equal(l, []Entry{{"a", 1}, {"b", 2}, {"c", 3}}) || !slices.Equal(keys, []string{"", "", "c", "", "a", "b", "", ""}) {
		t.Errorf("what was told became %v %q", l, keys)
	}
}

func TestClear(t *testing.T) {
	for _, keys := range []string{"", "a", "hpx", "gohpxe"} {
		x := filled(t, 8, keys)
		x.Put("", 5)
		x.Clear()
		holds(t, x, 8, nil)
		missing(t, x, "")
		for _, c := range keys {
			missing(t, x, string(c))
		}
		if n, e := x.Add("h", 1); n != 1 || e != api.OK {
			t.Errorf("what was cleared away counts: %d %d", n, int(e))
		}
		if at := x.Where("h"); at != 7 {
			t.Errorf("h stands in %d", at)
		}
		holds(t, x, 8, map[string]int{"h": 1})
	}
}

func TestExample(t *testing.T) {
	x := filled(t, 4, "abc")
	if !x.Full() || x.Len() != 3 {
		t.Errorf("three of four: Full %v, Len %d", x.Full(), x.Len())
	}
	if e := x.Put("d", 4); e != api.ErrFull {
		t.Errorf("a fourth one = %d", int(e))
	}
}

// P7.4

func TestGapsAreClosed(t *testing.T) {
	for _, c := range []struct {
		keys string
		want map[string]string // the slots, by who went
	}{
		{"a", map[string]string{"a": "........"}},
		{"ab", map[string]string{"a": ".....b..", "b": "....a..."}},
		{"hpx", map[string]string{"h": "x......p", "p": "x......h", "x": "p......h"}},
		{"hepm", map[string]string{"h": "em.....p", "e": "pm.....h", "p": "em.....h", "m": "ep.....h"}},
		{"cksdlt", map[string]string{"c": "..ksdlt.", "s": "..ckdlt.", "d": "..ckslt.", "t": "..cksdl."}},
		{"ckadlb", map[string]string{"c": "..kdalb.", "k": "..cdalb.", "a": "..ckdlb.", "d": "..ckalb."}},
		{"gohpxe", map[string]string{"g": "pxe...oh", "o": "pxe...gh", "h": "pxe...go", "x": "hpe...go"}},
		{"emfncd", map[string]string{"e": "mfncd...", "n": "emfcd...", "c": "emfnd...", "d": "emfnc..."}},
		{"gohepf", map[string]string{"g": "epf...oh", "h": "epf...go", "e": "hpf...go", "p": "hef...go"}},
	} {
		for gone, want := range c.want {
			x, left := filled(t, 8, c.keys), map[string]int{}
			for _, k := range strings.ReplaceAll(c.keys, gone, "") {
				left[string(k)] = int(k-'a') + 1
			}
			if !x.Del(gone) {
				t.Errorf("%s: Del(%s)", c.keys, gone)
			}
			if s := slotsOf(x); s != want {
				t.Errorf("%s without %s: %s, want %s", c.keys, gone, s, want)
			}
			holds(t, x, 8, left)
		}
	}
}

// without is what slots hold when a key went, worked out by walking from each one's own slot.
func without(slots []string, key string) []string {
	l, room := slices.Clone(slots), len(slots)
	gap := slices.Index(l, key)
	l[gap] = ""
	for at := (gap + 1) % room; l[at] != ""; at = (at + 1) % room {
		over := false
		for i := belongs(l[at], room); i != at; i = (i + 1) % room {
			over = over || i == gap
		}
		if over {
			l[gap], l[at] = l[at], ""
			gap = at
		}
	}
	return l
}

// with is what slots hold when a key came.
func with(slots []string, key string) []string {
	l, at := slices.Clone(slots), belongs(key, len(slots))
	for l[at] != "" {
		at = (at + 1) % len(l)
	}
	l[at] = key
	return l
}

func TestLongWalk(t *testing.T) {
	for _, room := range []int{2, 3, 4, 8, 11, 64, 256} {
		x, want, slots := made(t, room), map[string]int{}, make([]string, room)
		seed := uint32(room)
		draw := func(most int) int {
			seed = seed*1664525 + 1013904223
			return int(seed>>8) % most
		}
		for step := range 3000 {
			key, n, what := "k"+string(rune('0'+draw(room+1))), draw(2001)-1000, draw(5)
			has, there := want[key]
			sum, e := n, api.OK
			switch {
			case what < 2:
				if x.Del(key) != there {
					t.Fatalf("step %d of %d: Del(%q), there %v", step, room, key, there)
				}
				if there {
					slots = without(slots, key)
				}
				delete(want, key)
			case what == 2:
				sum, e = x.Add(key, n)
				n += has
			default:
				e = x.Put(key, n)
			}
			refused := what >= 2 && !there && len(want) == room*3/4
			if refused != (e == api.ErrFull) || !refused && (e != api.OK || sum != n) {
				t.Fatalf("step %d of %d: %d %d, want %d, refused %v", step, room, sum, int(e), n, refused)
			}
			if what >= 2 && !refused {
				want[key] = n
				if !there {
					slots = with(slots, key)
				}
			}
			if !slices.Equal(x.Slots(), slots) {
				t.Fatalf("step %d of %d: %q, want %q", step, room, x.Slots(), slots)
			}
			holds(t, x, room, want)
		}
	}
}

func TestTablesHaveNothingInCommon(t *testing.T) {
	x, y := filled(t, 8, "ab"), filled(t, 8, "ab")
	x.Put("a", 9)
	x.Del("b")
	holds(t, y, 8, map[string]int{"a": 1, "b": 2})
	y.Clear()
	holds(t, x, 8, map[string]int{"a": 9})
}
