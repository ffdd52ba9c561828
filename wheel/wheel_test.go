package wheel

import (
	"math"
	"slices"
	"testing"

	"callboy/api"
)

// lastTick is the last tick that there is.
const lastTick = 1 << 40

// ids are numbers at the ends of what may be, and about them.
var ids = []int{math.MinInt, -256, -1, 0, 1, 2, 127, 128, 254, 255, 256, 257, 1 << 32, math.MaxInt}

// about are ticks at the ends of what may be, and about them, and about a wheel's tick.
func about(now int) []int {
	return []int{math.MinInt, math.MinInt + 1, -lastTick, -2, -1, 0, 1, 2, 31, 32, 33, 64, now - 32, now - 1, now, now + 1, now + 2, now + 31, now + 32, now + 33, now + 1000, lastTick - 32, lastTick - 1, lastTick, lastTick + 1, 1 << 41, math.MaxInt - 1, math.MaxInt}
}

// What the calls should tell, in the test's own words: a place for each number, in which its tick stands, or 0.

type model struct {
	slots int
	now   int
	at    [256]int
}

func (m *model) set(id, at int) api.Errno {
	switch {
	case !(-1 < id && id < 256), at < m.now+1, lastTick < at:
		return api.ErrRange
	}
	m.at[id] = at
	return api.OK
}

func (m *model) when(id int) (int, bool) {
	if !(-1 < id && id < 256) || m.at[id] == 0 {
		return 0, false
	}
	return m.at[id], true
}

func (m *model) stop(id int) bool {
	_, ok := m.when(id)
	if ok {
		m.at[id] = 0
	}
	return ok
}

// all tells all, the number with the least tick each time, and of one tick the least number.
func (m *model) all() []Due {
	var l []Due
	left := m.at
	for {
		least := -1
		for id := 255; id >= 0; id-- {
			if left[id] != 0 && (least < 0 || left[id] <= left[least]) {
				least = id
			}
		}
		if least < 0 {
			return l
		}
		l = append(l, Due{least, left[least]})
		left[least] = 0
	}
}

func (m *model) goOn(now int) []Due {
	if !(m.now < now && now < lastTick+1) {
		return nil
	}
	m.now = now
	var l []Due
	for _, d := range m.all() {
		if d.At <= now {
			l = append(l, d)
			m.at[d.ID] = 0
		}
	}
	return l
}

func (m *model) load() []int {
	l := make([]int, m.slots)
	for _, at := range m.at {
		if at != 0 {
			l[at%m.slots]++
		}
	}
	return l
}

// made is a wheel that New made.
func made(t *testing.T, slots int) *Wheel {
	t.Helper()
	w, e := New(slots)
	if e != api.OK || w == nil {
		t.Fatalf("New(%d) = %v %d", slots, w, int(e))
	}
	return w
}

// both are a wheel, and what it should tell.
type both struct {
	w *Wheel
	m *model
}

func start(t *testing.T, slots int) both {
	t.Helper()
	return both{made(t, slots), &model{slots: slots}}
}

// at is a wheel of so many slots at a tick, on which some numbers are due.
func at(t *testing.T, slots, now int, due ...Due) both {
	t.Helper()
	b := start(t, slots)
	b.goOn(t, now)
	if b.m.now != now {
		t.Fatalf("%d is no tick to go to", now)
	}
	for _, d := range due {
		b.set(t, d.ID, d.At)
		if n, ok := b.m.when(d.ID); n != d.At || !ok {
			t.Fatalf("%d is not due at %d", d.ID, d.At)
		}
	}
	return b
}

func (b both) set(t *testing.T, id, at int) {
	t.Helper()
	if e, want := b.w.Set(id, at), b.m.set(id, at); e != want {
		t.Fatalf("Set(%d, %d) at %d = %d, not %d", id, at, b.m.now, int(e), int(want))
	}
}

func (b both) stop(t *testing.T, id int) {
	t.Helper()
	if ok, want := b.w.Stop(id), b.m.stop(id); ok != want {
		t.Fatalf("Stop(%d) at %d = %v, not %v", id, b.m.now, ok, want)
	}
}

func (b both) goOn(t *testing.T, now int) []Due {
	t.Helper()
	from := b.m.now
	l, want := b.w.Go(now), b.m.goOn(now)
	if !slices.Equal(l, want) {
		t.Fatalf("Go(%d) from %d = %v, not %v", now, from, l, want)
	}
	return l
}

// holds looks by all that asks, whether the wheel tells what it should.
func (b both) holds(t *testing.T) {
	t.Helper()
	b.short(t)
	for id := -2; id < 258; id++ {
		b.when(t, id)
	}
	for _, id := range ids {
		b.when(t, id)
	}
}

// short looks by all that asks, but When.
func (b both) short(t *testing.T) {
	t.Helper()
	want := b.m.all()
	if n := b.w.Now(); n != b.m.now {
		t.Fatalf("Now = %d, not %d", n, b.m.now)
	}
	if n := b.w.Len(); n != len(want) {
		t.Fatalf("Len = %d, not %d", n, len(want))
	}
	if l := b.w.All(); !slices.Equal(l, want) {
		t.Fatalf("All = %v, not %v", l, want)
	}
	next := 0
	if len(want) > 0 {
		next = want[0].At
	}
	if n, ok := b.w.Next(); n != next || ok != (len(want) > 0) {
		t.Fatalf("Next = %d %v, not %d of %d", n, ok, next, len(want))
	}
	if l, want := b.w.Load(), b.m.load(); !slices.Equal(l, want) {
		t.Fatalf("Load = %v, not %v", l, want)
	}
}

func (b both) when(t *testing.T, id int) {
	t.Helper()
	n, ok := b.w.When(id)
	if want, is := b.m.when(id); n != want || ok != is {
		t.Fatalf("When(%d) = %d %v, not %d %v", id, n, ok, want, is)
	}
}

// told holds the last Go of all against a list that is written out.
func told(t *testing.T, l []Due, want ...Due) {
	t.Helper()
	if !slices.Equal(l, want) {
		t.Errorf("%v is told, not %v", l, want)
	}
}

// dice are numbers that a rule tells.
type dice uint64

func (d *dice) roll(n int) int {
	*d = *d*6364136223846793005 + 1442695040888963407
	return int(uint64(*d)>>33) % n
}

// P15.1

func TestNew(t *testing.T) {
	for slots := 1; slots <= 32; slots++ {
		w := made(t, slots)
		if w.Now() != 0 || w.Len() != 0 || len(w.All()) != 0 || !slices.Equal(w.Load(), make([]int, slots)) {
			t.Errorf("New(%d): Now %d, Len %d, All %v, Load %v", slots, w.Now(), w.Len(), w.All(), w.Load())
		}
		if n, ok := w.Next(); n != 0 || ok {
			t.Errorf("New(%d): Next = %d %v", slots, n, ok)
		}
		start(t, slots).holds(t)
	}
}

func TestNewOutOfRange(t *testing.T) {
	for _, slots := range []int{math.MinInt, math.MinInt + 1, -32, -1, 0, 33, 34, 64, 1 << 32, 1<<32 + 1, math.MaxInt} {
		if w, e := New(slots); w != nil || e != api.ErrRange {
			t.Errorf("New(%d) = %v %d", slots, w, int(e))
		}
	}
}

func TestNothingIsDueOnANewWheel(t *testing.T) {
	for _, slots := range []int{1, 2, 31, 32} {
		for _, now := range about(0) {
			b := start(t, slots)
			if l := b.goOn(t, now); len(l) != 0 {
				t.Errorf("Go(%d) = %v", now, l)
			}
			b.short(t)
		}
		b := start(t, slots)
		for _, id := range ids {
			if b.w.Stop(id) {
				t.Errorf("Stop(%d) of a new wheel", id)
			}
		}
		b.holds(t)
	}
}

func TestNil(t *testing.T) {
	var w *Wheel
	for _, id := range ids {
		for _, tick := range about(0) {
			if e := w.Set(id, tick); e != api.ErrNil {
				t.Errorf("Set(%d, %d) = %d", id, tick, int(e))
			}
			if l := w.Go(tick); len(l) != 0 {
				t.Errorf("Go(%d) = %v", tick, l)
			}
		}
		if w.Stop(id) {
			t.Errorf("Stop(%d) is true", id)
		}
		if n, ok := w.When(id); n != 0 || ok {
			t.Errorf("When(%d) = %d %v", id, n, ok)
		}
	}
	if n, ok := w.Next(); n != 0 || ok {
		t.Errorf("Next = %d %v", n, ok)
	}
	if w.Now() != 0 || w.Len() != 0 || len(w.All()) != 0 || len(w.Load()) != 0 {
		t.Errorf("Now %d, Len %d, All %v, Load %v", w.Now(), w.Len(), w.All(), w.Load())
	}
}

func TestNowAndLen(t *testing.T) {
	w := made(t, 4)
	for i, x := range []struct {
		call     func()
		now, len int
	}{
		{func() { w.Set(9, 3) }, 0, 1},
		{func() { w.Set(8, 3) }, 0, 2},
		{func() { w.Set(8, 7) }, 0, 2},
		{func() { w.Set(256, 7) }, 0, 2},
		{func() { w.Set(7, 0) }, 0, 2},
		{func() { w.Go(2) }, 2, 2},
		{func() { w.Go(2) }, 2, 2},
		{func() { w.Go(1) }, 2, 2},
		{func() { w.Set(7, 2) }, 2, 2},
		{func() { w.Set(7, 11) }, 2, 3},
		{func() { w.Go(4) }, 4, 2},
		{func() { w.Stop(9) }, 4, 2},
		{func() { w.Stop(8) }, 4, 1},
		{func() { w.Go(lastTick + 1) }, 4, 1},
		{func() { w.Go(lastTick) }, lastTick, 0},
		{func() { w.Set(1, lastTick) }, lastTick, 0},
		{func() { w.Go(lastTick) }, lastTick, 0},
	} {
		x.call()
		if w.Now() != x.now || w.Len() != x.len {
			t.Errorf("call %d: Now %d, Len %d, not %d and %d", i, w.Now(), w.Len(), x.now, x.len)
		}
	}
}

// P15.2

func TestSetEdges(t *testing.T) {
	for _, x := range []struct {
		id, at int
		e      api.Errno
	}{
		{0, 101, api.OK},
		{255, 101, api.OK},
		{0, lastTick, api.OK},
		{255, lastTick, api.OK},
		{-1, 101, api.ErrRange},
		{256, 101, api.ErrRange},
		{math.MinInt, 101, api.ErrRange},
		{math.MaxInt, 101, api.ErrRange},
		{1 << 32, 101, api.ErrRange},
		{7, 99, api.ErrRange},
		{7, 100, api.ErrRange},
		{7, 0, api.ErrRange},
		{7, -1, api.ErrRange},
		{7, math.MinInt, api.ErrRange},
		{7, lastTick + 1, api.ErrRange},
		{7, math.MaxInt, api.ErrRange},
		{-1, 100, api.ErrRange},
		{256, lastTick + 1, api.ErrRange},
		{math.MinInt, math.MinInt, api.ErrRange},
		{math.MaxInt, math.MaxInt, api.ErrRange},
	} {
		b := at(t, 8, 100, Due{3, 150})
		if e := b.w.Set(x.id, x.at); e != x.e {
			t.Errorf("Set(%d, %d) at 100 = %d, not %d", x.id, x.at, int(e), int(x.e))
		}
		n, ok := b.w.When(x.id)
		if x.e == api.OK && (n != x.at || !ok) || x.e != api.OK && (n != 0 || ok) {
			t.Errorf("Set(%d, %d) at 100: When = %d %v", x.id, x.at, n, ok)
		}
		b.m.set(x.id, x.at)
		b.holds(t)
	}
}

func TestSetOfAll(t *testing.T) {
	for _, slots := range []int{1, 2, 3, 31, 32} {
		for _, now := range []int{0, 1, 31, 32, 33, 100, lastTick - 33, lastTick - 2, lastTick - 1, lastTick} {
			for _, id := range ids {
				for _, tick := range about(now) {
					b := at(t, slots, now)
					b.set(t, id, tick)
					b.short(t)
					b.when(t, id)
				}
			}
		}
	}
}

// Each number may be due, at each tick of a few turns.
func TestEachNumberMayBeDue(t *testing.T) {
	for slots := 1; slots <= 32; slots++ {
		b := start(t, slots)
		for id := range 256 {
			b.set(t, id, 1+id*7%97)
		}
		b.holds(t)
		for id := 255; id >= 0; id-- {
			b.set(t, id, 1+id*5%89)
		}
		b.holds(t)
	}
}

// A number that is set again is due at the last tick alone, be its slot another one or not.
func TestSetAgain(t *testing.T) {
	for _, slots := range []int{1, 2, 5, 32} {
		for first := 11; first < 22; first++ {
			for _, second := range []int{11, 12, 13, 15, 16, 20, 21, 11 + slots, first + slots, first + 32, 1000, lastTick - 1, lastTick} {
				b := at(t, slots, 10, Due{6, 14}, Due{4, first}, Due{5, second})
				b.set(t, 4, second)
				b.holds(t)
				for now := 11; now < 60; now++ {
					b.goOn(t, now)
				}
				b.goOn(t, lastTick)
				b.holds(t)
			}
		}
	}
	w := made(t, 4)
	for _, tick := range []int{5, 5, 9, 2, 6, 3} {
		if e := w.Set(1, tick); e != api.OK {
			t.Errorf("Set(1, %d) = %d", tick, int(e))
		}
		told(t, w.All(), Due{1, tick})
		load := make([]int, 4)
		load[tick%4] = 1
		if !slices.Equal(w.Load(), load) {
			t.Errorf("Load = %v at %d", w.Load(), tick)
		}
	}
	told(t, w.Go(2))
	told(t, w.Go(9), Due{1, 3})
}

// A Set that is refused leaves a number due as it was.
func TestSetRefused(t *testing.T) {
	for _, slots := range []int{1, 4, 32} {
		for _, now := range []int{0, 10, lastTick - 1} {
			for _, id := range []int{0, 7, 255} {
				b := at(t, slots, now, Due{id, now + 1}, Due{8, lastTick})
				for _, tick := range []int{math.MinInt, -1, 0, now - 1, now, lastTick + 1, math.MaxInt} {
					if e := b.w.Set(id, tick); e != api.ErrRange {
						t.Errorf("Set(%d, %d) at %d = %d", id, tick, now, int(e))
					}
					if n, ok := b.w.When(id); n != now+1 || !ok {
						t.Errorf("Set(%d, %d) at %d is refused: When = %d %v", id, tick, now, n, ok)
					}
				}
				for _, other := range []int{math.MinInt, -1, 256, id + 256, id - 256, 1<<32 + id, math.MaxInt} {
					if e := b.w.Set(other, now+1); e != api.ErrRange {
						t.Errorf("Set(%d, %d) at %d = %d", other, now+1, now, int(e))
					}
				}
				b.holds(t)
				b.goOn(t, now+1)
				b.holds(t)
			}
		}
	}
}

func TestStop(t *testing.T) {
	for _, slots := range []int{1, 3, 32} {
		b := at(t, slots, 20, Due{0, 21}, Due{255, 21}, Due{7, 24}, Due{8, 21 + slots}, Due{9, lastTick})
		for _, x := range []struct {
			id int
			is bool
		}{{1, false}, {-1, false}, {256, false}, {math.MinInt, false}, {math.MaxInt, false}, {1 << 32, false}, {7, true}, {7, false}, {255, true}, {255, false}, {9, true}, {9, false}} {
			if ok := b.w.Stop(x.id); ok != x.is {
				t.Errorf("Stop(%d) of %d slots = %v", x.id, slots, ok)
			}
			b.m.stop(x.id)
			if n, ok := b.w.When(x.id); n != 0 || ok {
				t.Errorf("When(%d) behind Stop = %d %v", x.id, n, ok)
			}
			b.holds(t)
		}
		// What was told is due no more, and what was stopped is not told.
		told(t, b.goOn(t, 21), Due{0, 21})
		if b.w.Stop(0) {
			t.Error("0 was told, and is stopped")
		}
		told(t, b.goOn(t, lastTick), Due{8, 21 + slots})
		if b.w.Stop(8) || b.w.Stop(7) {
			t.Error("none is due, and one is stopped")
		}
		b.holds(t)
	}
}

// What was stopped, or told, may be due again.
func TestSetBehindStopAndGo(t *testing.T) {
	for _, slots := range []int{1, 2, 32} {
		b := at(t, slots, 0, Due{5, 3})
		b.stop(t, 5)
		b.set(t, 5, 4)
		b.holds(t)
		told(t, b.goOn(t, 3))
		told(t, b.goOn(t, 4), Due{5, 4})
		b.set(t, 5, 4)
		b.holds(t)
		b.set(t, 5, 5)
		b.holds(t)
		told(t, b.goOn(t, 4))
		told(t, b.goOn(t, 5), Due{5, 5})
		told(t, b.goOn(t, 6))
		b.holds(t)
	}
}

func TestWhen(t *testing.T) {
	w := made(t, 4)
	when := func(id, want int, is bool) {
		t.Helper()
		if n, ok := w.When(id); n != want || ok != is {
			t.Errorf("When(%d) = %d %v, not %d %v", id, n, ok, want, is)
		}
	}
	when(7, 0, false)
	w.Set(7, 5)
	w.Set(0, 9)
	w.Set(255, lastTick)
	when(7, 5, true)
	when(0, 9, true)
	when(255, lastTick, true)
	when(1, 0, false)
	when(-1, 0, false)
	when(256, 0, false)
	when(math.MinInt, 0, false)
	when(math.MaxInt, 0, false)
	w.Set(7, 6)
	when(7, 6, true)
	w.Set(7, 0)
	when(7, 6, true)
	w.Go(5)
	when(7, 6, true)
	w.Go(6)
	when(7, 0, false)
	when(0, 9, true)
	w.Stop(0)
	when(0, 0, false)
	w.Set(0, 7)
	when(0, 7, true)
	w.Go(lastTick)
	when(0, 0, false)
	when(255, 0, false)
}

// P15.3

func TestGo(t *testing.T) {
	due := []Due{{3, 11}, {1, 12}, {9, 12}, {200, 12}, {2, 16}, {0, 16}, {255, 20}, {4, 28}, {5, 44}, {6, 1000}, {7, lastTick - 1}, {8, lastTick}}
	for _, x := range []struct {
		what string
		now  int
		want []Due
	}{
		{"a tick below 0", -1, nil},
		{"the least tick", math.MinInt, nil},
		{"the tick 0", 0, nil},
		{"a tick below Now", 9, nil},
		{"Now", 10, nil},
		{"one above Now", 11, []Due{{3, 11}}},
		{"by less than the slots", 12, []Due{{3, 11}, {1, 12}, {9, 12}, {200, 12}}},
		{"just ahead of another one", 15, []Due{{3, 11}, {1, 12}, {9, 12}, {200, 12}}},
		{"two of another tick in one slot", 16, []Due{{3, 11}, {1, 12}, {9, 12}, {200, 12}, {0, 16}, {2, 16}}},
		{"by more than the slots", 27, []Due{{3, 11}, {1, 12}, {9, 12}, {200, 12}, {0, 16}, {2, 16}, {255, 20}}},
		{"to one in the same slot", 28, []Due{{3, 11}, {1, 12}, {9, 12}, {200, 12}, {0, 16}, {2, 16}, {255, 20}, {4, 28}}},
		{"far on", 999, []Due{{3, 11}, {1, 12}, {9, 12}, {200, 12}, {0, 16}, {2, 16}, {255, 20}, {4, 28}, {5, 44}}},
		{"one below the last", lastTick - 1, []Due{{3, 11}, {1, 12}, {9, 12}, {200, 12}, {0, 16}, {2, 16}, {255, 20}, {4, 28}, {5, 44}, {6, 1000}, {7, lastTick - 1}}},
		{"the last tick", lastTick, []Due{{3, 11}, {1, 12}, {9, 12}, {200, 12}, {0, 16}, {2, 16}, {255, 20}, {4, 28}, {5, 44}, {6, 1000}, {7, lastTick - 1}, {8, lastTick}}},
		{"beyond the last tick", lastTick + 1, nil},
		{"twice the last tick", 2 * lastTick, nil},
		{"the greatest tick", math.MaxInt, nil},
	} {
		for _, slots := range []int{1, 2, 4, 8, 31, 32} {
			b := at(t, slots, 10, due...)
			told(t, b.goOn(t, x.now), x.want...)
			now := 10
			if len(x.want) > 0 {
				now = x.now
			}
			if b.w.Now() != now || b.w.Len() != len(due)-len(x.want) {
				t.Errorf("%s: Now %d, Len %d of %d slots", x.what, b.w.Now(), b.w.Len(), slots)
			}
			b.holds(t)
			// None is told twice.
			told(t, b.goOn(t, x.now))
			b.holds(t)
		}
	}
}

// A Go that tells nothing, as nothing is due so far, goes on all the same; one that is refused leaves all as it was.
func TestGoThatTellsNothing(t *testing.T) {
	for _, slots := range []int{1, 2, 7, 32} {
		b := at(t, slots, 10, Due{1, 100}, Due{2, 100 + slots})
		for _, now := range []int{11, 12, 12 + slots, 99} {
			told(t, b.goOn(t, now))
			if b.w.Now() != now {
				t.Errorf("Go(%d): Now = %d", now, b.w.Now())
			}
			b.holds(t)
		}
		for _, now := range []int{math.MinInt, -1, 0, 98, 99, lastTick + 1, math.MaxInt} {
			told(t, b.goOn(t, now))
			if b.w.Now() != 99 || b.w.Len() != 2 {
				t.Errorf("Go(%d) at 99: Now = %d, Len = %d", now, b.w.Now(), b.w.Len())
			}
			b.holds(t)
		}
		told(t, b.goOn(t, 100), Due{1, 100})
		b.holds(t)
	}
}

// From each tick to each tick of a few turns, with each tick's number due.
func TestGoByAnyWay(t *testing.T) {
	for _, slots := range []int{1, 2, 3, 8, 31, 32} {
		for from := range 40 {
			for by := range 80 {
				b := at(t, slots, from)
				for id := range 90 {
					b.set(t, (id*37+11)%256, from+1+id)
				}
				if l := b.goOn(t, from+by); len(l) != by {
					t.Errorf("Go from %d to %d tells %v", from, from+by, l)
				}
				b.short(t)
			}
		}
	}
}

func TestGoOfAll(t *testing.T) {
	for slots := 1; slots <= 32; slots++ {
		// All at one tick: by numbers.
		b := start(t, slots)
		for id := 255; id >= 0; id-- {
			b.set(t, id*101%256, 50)
		}
		l := b.goOn(t, 50)
		if len(l) != 256 {
			t.Errorf("%d of 256 are told", len(l))
		}
		for id, d := range l {
			if d != (Due{id, 50}) {
				t.Errorf("%v is told as the %d-th", d, id)
			}
		}
		b.holds(t)
		// Each at a tick of its own, the greatest number first.
		for id := range 256 {
			b.set(t, id, 50+256-id)
		}
		for i, d := range b.goOn(t, lastTick) {
			if d != (Due{255 - i, 51 + i}) {
				t.Errorf("%v is told as the %d-th", d, i)
			}
		}
		b.holds(t)
		if b.w.Len() != 0 || b.w.Now() != lastTick {
			t.Errorf("Len %d, Now %d", b.w.Len(), b.w.Now())
		}
	}
}

func TestAtTheLastTick(t *testing.T) {
	for _, slots := range []int{1, 31, 32} {
		b := at(t, slots, lastTick-2, Due{9, lastTick - 1}, Due{8, lastTick}, Due{0, lastTick})
		b.holds(t)
		told(t, b.goOn(t, lastTick+1))
		told(t, b.goOn(t, lastTick-1), Due{9, lastTick - 1})
		b.holds(t)
		told(t, b.goOn(t, lastTick), Due{0, lastTick}, Due{8, lastTick})
		for _, tick := range about(lastTick) {
			if e := b.w.Set(1, tick); e != api.ErrRange {
				t.Errorf("Set(1, %d) at the last tick = %d", tick, int(e))
			}
			told(t, b.goOn(t, tick))
		}
		b.holds(t)
	}
}

// P15.4

func TestNext(t *testing.T) {
	w := made(t, 4)
	next := func(want int, is bool) {
		t.Helper()
		if n, ok := w.Next(); n != want || ok != is {
			t.Errorf("Next = %d %v, not %d %v", n, ok, want, is)
		}
	}
	next(0, false)
	w.Set(1, lastTick)
	next(lastTick, true)
	w.Set(2, 9)
	next(9, true)
	w.Set(3, 5)
	next(5, true)
	w.Set(4, 6)
	next(5, true)
	w.Set(5, 5)
	w.Stop(3)
	next(5, true)
	w.Stop(5)
	next(6, true)
	w.Set(4, 10)
	next(9, true)
	w.Go(8)
	next(9, true)
	w.Go(8)
	next(9, true)
	w.Go(9)
	next(10, true)
	w.Go(lastTick - 1)
	next(lastTick, true)
	w.Go(lastTick)
	next(0, false)
}

func TestAll(t *testing.T) {
	w := made(t, 4)
	told(t, w.All())
	for _, d := range []Due{{7, 9}, {255, 5}, {3, lastTick}, {0, 5}, {200, 4}, {9, 5}, {1, 9}, {4, 13}} {
		w.Set(d.ID, d.At)
	}
	told(t, w.All(), Due{200, 4}, Due{0, 5}, Due{9, 5}, Due{255, 5}, Due{1, 9}, Due{7, 9}, Due{4, 13}, Due{3, lastTick})
	w.Stop(9)
	w.Set(255, 6)
	w.Go(5)
	told(t, w.All(), Due{255, 6}, Due{1, 9}, Due{7, 9}, Due{4, 13}, Due{3, lastTick})
	w.Go(13)
	told(t, w.All(), Due{3, lastTick})
	w.Go(lastTick)
	told(t, w.All())
}

func TestLoad(t *testing.T) {
	for _, x := range []struct {
		slots int
		due   []Due
		want  []int
	}{
		{1, nil, []int{0}},
		{1, []Due{{1, 1}, {2, 2}, {3, 1000}, {4, lastTick}}, []int{4}},
		{2, []Due{{1, 1}, {2, 2}, {3, 1001}, {4, lastTick}, {5, 7}}, []int{2, 3}},
		{3, []Due{{1, 1}, {2, 2}, {3, 3}, {4, 4}, {5, lastTick}, {6, lastTick - 1}}, []int{2, 3, 1}},
		{5, []Due{{0, 5}, {1, 10}, {2, 11}, {3, 14}, {4, 19}, {5, lastTick}}, []int{2, 2, 0, 0, 2}},
		{7, []Due{{0, 6}, {1, 8}, {2, lastTick}}, []int{0, 1, 1, 0, 0, 0, 1}},
		{32, []Due{{0, 1}, {1, 31}, {2, 32}, {3, 33}, {4, 63}, {5, 64}, {6, lastTick}, {7, lastTick - 1}}, []int{3, 2, 0, 0, 0, 0, 0, 0, 0, 0, 0, 0, 0, 0, 0, 0, 0, 0, 0, 0, 0, 0, 0, 0, 0, 0, 0, 0, 0, 0, 0, 3}},
	} {
		b := at(t, x.slots, 0, x.due...)
		if l := b.w.Load(); !slices.Equal(l, x.want) {
			t.Errorf("Load of %v in %d slots = %v, not %v", x.due, x.slots, l, x.want)
		}
		b.goOn(t, lastTick)
		if l := b.w.Load(); !slices.Equal(l, make([]int, x.slots)) {
			t.Errorf("Load of none in %d slots = %v", x.slots, l)
		}
	}
}

// Load hangs on the ticks alone, not on where the wheel is.
func TestLoadBehindGo(t *testing.T) {
	for slots := 1; slots <= 32; slots++ {
		for _, now := range []int{0, 1, slots - 1, slots, slots + 1, 100, lastTick - 70} {
			b := at(t, slots, now)
			for i := range 70 {
				b.set(t, i*3, now+1+i)
				b.short(t)
			}
			for i := range 70 {
				b.goOn(t, now+1+i)
				b.short(t)
			}
		}
	}
}

// P15.5

// All ways in which five calls of a few follow one another, held against the model.
func TestAllOfFewCalls(t *testing.T) {
	calls := []func(t *testing.T, b both){
		func(t *testing.T, b both) { b.set(t, 0, b.m.now+1) },
		func(t *testing.T, b both) { b.set(t, 0, b.m.now+3) },
		func(t *testing.T, b both) { b.set(t, 0, b.m.now) },
		func(t *testing.T, b both) { b.set(t, 1, b.m.now+1) },
		func(t *testing.T, b both) { b.set(t, 1, b.m.now+2) },
		func(t *testing.T, b both) { b.stop(t, 0) },
		func(t *testing.T, b both) { b.goOn(t, b.m.now) },
		func(t *testing.T, b both) { b.goOn(t, b.m.now+1) },
		func(t *testing.T, b both) { b.goOn(t, b.m.now+2) },
	}
	for slots := 1; slots <= 3; slots++ {
		for way := range 9 * 9 * 9 * 9 * 9 {
			b := start(t, slots)
			for range 5 {
				calls[way%9](t, b)
				way /= 9
			}
			b.short(t)
			b.when(t, 0)
			b.when(t, 1)
		}
	}
}

// counted holds for each number the tick at which it is to be told, and for each number at a tick how often it was told, and how often it should be.
type counted struct {
	at    map[int]int
	times map[Due]int
	sets  map[Due]int
}

// seen sees that all that is told is told at the first Go that reaches its tick.
func (c counted) seen(t *testing.T, l []Due, from, now int) {
	t.Helper()
	for _, d := range l {
		if at, ok := c.at[d.ID]; !ok || at != d.At {
			t.Fatalf("%v is told, and %d %v was set", d, at, ok)
		}
		if d.At <= from || now < d.At {
			t.Fatalf("%v is told from %d to %d", d, from, now)
		}
		c.times[d]++
		delete(c.at, d.ID)
	}
	for id, at := range c.at {
		if at <= now {
			t.Fatalf("%d is not told at %d, though due at %d", id, now, at)
		}
	}
}

func TestEachIsToldOnce(t *testing.T) {
	for slots := 1; slots <= 32; slots++ {
		d := dice(slots)
		w := made(t, slots)
		c := counted{map[int]int{}, map[Due]int{}, map[Due]int{}}
		for range 2000 {
			id, now := d.roll(256), w.Now()
			tick := now + 1 + d.roll([]int{1, 5, 40, 200}[d.roll(4)])
			switch d.roll(5) {
			case 0, 1, 2:
				w.Set(id, tick)
				if was, ok := c.at[id]; ok {
					c.sets[Due{id, was}]--
				}
				c.at[id] = tick
				c.sets[Due{id, tick}]++
			case 3:
				was, ok := c.at[id]
				if w.Stop(id) != ok {
					t.Fatalf("Stop(%d) is not %v", id, ok)
				}
				if ok {
					c.sets[Due{id, was}]--
					delete(c.at, id)
				}
			default:
				c.seen(t, w.Go(tick), now, tick)
			}
		}
		now := w.Now()
		c.seen(t, w.Go(lastTick), now, lastTick)
		for x, n := range c.sets {
			if c.times[x] != n {
				t.Errorf("%v was set %d times, and told %d times", x, n, c.times[x])
			}
		}
		if w.Len() != 0 {
			t.Errorf("%v is left", w.All())
		}
	}
}

// By however many steps it goes to a tick, just the same is told till then.
func TestStepsTellTheSame(t *testing.T) {
	for _, slots := range []int{1, 2, 5, 32} {
		for _, step := range []int{1, 2, 3, 5, 31, 32, 33, 64, 300} {
			d := dice(step)
			one, many := made(t, slots), made(t, slots)
			for id := range 256 {
				tick := 1 + d.roll(300)
				one.Set(id, tick)
				many.Set(id, tick)
			}
			var l []Due
			for now := step; now < 300+step; now += step {
				l = append(l, many.Go(now)...)
			}
			if want := one.Go(300); !slices.Equal(l, want) || len(l) != 256 {
				t.Errorf("by steps of %d of %d slots %v is told, not %v", step, slots, l, want)
			}
		}
	}
}

func TestLongWalk(t *testing.T) {
	for _, slots := range []int{1, 2, 3, 7, 16, 31, 32} {
		for _, from := range []int{0, 1000, lastTick - 400} {
			d := dice(slots*7 + from)
			b := at(t, slots, from)
			for range 1500 {
				id := d.roll([]int{4, 258}[d.roll(2)]) - 1
				tick := b.m.now + d.roll([]int{3, 40, 400}[d.roll(3)]) - 1
				switch d.roll(8) {
				case 0, 1, 2, 3:
					b.set(t, id, tick)
				case 4:
					b.stop(t, id)
				case 5:
					b.set(t, ids[d.roll(len(ids))], about(b.m.now)[d.roll(22)])
				case 6:
					b.goOn(t, b.m.now+d.roll(3)-1)
				default:
					b.goOn(t, tick-d.roll(3))
				}
				b.short(t)
				b.when(t, id)
			}
			b.holds(t)
		}
	}
}

// The rules

// scrawl writes over all that was told, and its spare room.
func scrawl(l []Due) {
	l = l[:cap(l)]
	for i := range l {
		l[i] = Due{-9, -9}
	}
}

func TestWhatIsToldIsNewMemory(t *testing.T) {
	for _, slots := range []int{1, 4, 32} {
		b := at(t, slots, 0)
		for id := range 9 {
			b.set(t, id, 1+id%4)
		}
		scrawl(b.w.All())
		load := b.w.Load()
		load = load[:cap(load)]
		for i := range load {
			load[i] = -9
		}
		b.holds(t)
		scrawl(b.goOn(t, 1))
		b.holds(t)
		// What is told stays, however the wheel goes on.
		all, kept, load := b.w.All(), b.m.all(), b.w.Load()
		was := b.m.load()
		first := b.goOn(t, 2)
		for id := range 9 {
			b.set(t, id, 5+id)
		}
		b.stop(t, 3)
		b.goOn(t, 9)
		told(t, all, kept...)
		told(t, first, Due{1, 2}, Due{5, 2})
		if !slices.Equal(load, was) {
			t.Errorf("Load has become %v", load)
		}
		b.holds(t)
	}
}

// The same calls tell the same each time, in whatever order a map is ranged over.
func TestTheSameEachTime(t *testing.T) {
	run := func() []Due {
		w := made(t, 3)
		var l []Due
		for id := range 60 {
			w.Set(id, 1+id*7%5)
		}
		l = append(l, w.All()...)
		l = append(l, w.Go(2)...)
		l = append(l, w.Go(9)...)
		return l
	}
	want := run()
	for range 200 {
		if l := run(); !slices.Equal(l, want) {
			t.Fatalf("%v is told, and %v another time", want, l)
		}
	}
}

func TestTwoWheelsHaveNothingInCommon(t *testing.T) {
	a, b := at(t, 4, 0, Due{1, 5}), at(t, 4, 0, Due{1, 5})
	a.set(t, 2, 6)
	b.stop(t, 1)
	b.goOn(t, 7)
	a.holds(t)
	b.holds(t)
	told(t, a.goOn(t, 6), Due{1, 5}, Due{2, 6})
	b.holds(t)
}

func TestExample(t *testing.T) {
	for slots := 1; slots <= 32; slots++ {
		w := made(t, slots)
		if e := w.Set(7, 5); e != api.OK {
			t.Errorf("Set(7, 5) = %d", int(e))
		}
		if e := w.Set(3, 5); e != api.OK {
			t.Errorf("Set(3, 5) = %d", int(e))
		}
		told(t, w.Go(9), Due{3, 5}, Due{7, 5})
	}
}
