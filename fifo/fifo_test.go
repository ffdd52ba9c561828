package fifo

import (
	"math"
	"slices"
	"testing"

	"callboy/api"
)

// made is a ring that New made.
func made(t *testing.T, room int) *Ring {
	t.Helper()
	r, e := New(room)
	if e != api.OK || r == nil {
		t.Fatalf("New(%d) = %v %d", room, r, int(e))
	}
	return r
}

// filled is a ring of so much room in which numbers wait, the first of them in the cell that is turn cells on.
func filled(t *testing.T, room, turn int, numbers ...int) *Ring {
	t.Helper()
	r := made(t, room)
	for range turn {
		if !r.Put(-9) {
			t.Fatal("no room to turn")
		}
		r.Take()
	}
	for _, n := range numbers {
		if !r.Put(n) {
			t.Fatalf("no room for %d", n)
		}
	}
	return r
}

// rising are n numbers from 100 on.
func rising(n int) []int {
	var l []int
	for i := range n {
		l = append(l, 100+i)
	}
	return l
}

// holds looks by all that asks, whether just these numbers wait in a ring of so much room.
func holds(t *testing.T, r *Ring, room int, want []int) {
	t.Helper()
	if r.Len() != len(want) || r.Room() != room-len(want) {
		t.Fatalf("Len %d, Room %d, want %d of %d", r.Len(), r.Room(), len(want), room)
	}
	if l := r.All(); !slices.Equal(l, want) {
		t.Fatalf("All = %v, want %v", l, want)
	}
	for i, n := range want {
		if x, ok := r.At(i); x != n || !ok {
			t.Fatalf("At(%d) = %d %v, want %d", i, x, ok, n)
		}
		if at := r.Find(n); at != slices.Index(want, n) {
			t.Fatalf("Find(%d) = %d in %v", n, at, want)
		}
	}
	for _, i := range []int{math.MinInt, -room, -1, len(want), len(want) + 1, room, room + 1, math.MaxInt} {
		if i >= 0 && i < len(want) {
			continue
		}
		if x, ok := r.At(i); x != 0 || ok {
			t.Fatalf("At(%d) of %d = %d %v", i, len(want), x, ok)
		}
	}
	wiped(t, r)
}

// wiped looks whether what went left nothing behind: see the section 'Ways'.
func wiped(t *testing.T, r *Ring) {
	t.Helper()
	for i := range r.cells {
		waits := false
		for j := range r.count {
			waits = waits || (r.first+j)%len(r.cells) == i
		}
		if !waits && r.cells[i] != 0 {
			t.Fatalf("the cell %d keeps %d", i, r.cells[i])
		}
	}
}

// P5.1

func TestNew(t *testing.T) {
	for room := 1; room <= 64; room++ {
		holds(t, made(t, room), room, nil)
	}
}

func TestNewOutOfRange(t *testing.T) {
	for _, room := range []int{math.MinInt, -64, -1, 0, 65, 66, 128, 1 << 32, math.MaxInt} {
		if r, e := New(room); r != nil || e != api.ErrRange {
			t.Errorf("New(%d) = %v %d", room, r, int(e))
		}
	}
}

func TestLenAndRoom(t *testing.T) {
	for _, room := range []int{1, 2, 3, 63, 64} {
		r := made(t, room)
		for i := range room {
			if r.Len() != i || r.Room() != room-i {
				t.Errorf("%d of %d: Len %d, Room %d", i, room, r.Len(), r.Room())
			}
			r.Put(i)
		}
		if r.Len() != room || r.Room() != 0 {
			t.Errorf("%d are full: Len %d, Room %d", room, r.Len(), r.Room())
		}
	}
}

func TestNil(t *testing.T) {
	var r *Ring
	if r.Put(1) || r.Push(1) {
		t.Error("nil lets a number wait")
	}
	if n, ok := r.Take(); n != 0 || ok {
		t.Errorf("Take = %d %v", n, ok)
	}
	if n, ok := r.Last(); n != 0 || ok {
		t.Errorf("Last = %d %v", n, ok)
	}
	for _, i := range []int{math.MinInt, -1, 0, 1, math.MaxInt} {
		if n, ok := r.At(i); n != 0 || ok {
			t.Errorf("At(%d) = %d %v", i, n, ok)
		}
		if n := r.Drop(i); n != 0 {
			t.Errorf("Drop(%d) = %d", i, n)
		}
		if n := r.Find(i); n != -1 {
			t.Errorf("Find(%d) = %d", i, n)
		}
	}
	r.Clear()
	if r.Len() != 0 || r.Room() != 0 || len(r.All()) != 0 {
		t.Errorf("Len %d, Room %d, All %v", r.Len(), r.Room(), r.All())
	}
}

// P5.2

func TestPut(t *testing.T) {
	for _, room := range []int{1, 2, 5, 64} {
		for turn := range room + 1 {
			r := filled(t, room, turn)
			for i := range room {
				if !r.Put(100 + i) {
					t.Fatalf("no room for the %d-th of %d", i, room)
				}
				holds(t, r, room, rising(i+1))
			}
			if r.Put(7) {
				t.Errorf("%d and one more", room)
			}
			holds(t, r, room, rising(room))
		}
	}
}

func TestPush(t *testing.T) {
	for _, room := range []int{1, 2, 5, 64} {
		for turn := range room + 1 {
			r := filled(t, room, turn)
			for i := range room {
				if !r.Push(100 + room - 1 - i) {
					t.Fatalf("no room for the %d-th of %d", i, room)
				}
				holds(t, r, room, rising(room)[room-1-i:])
			}
			if r.Push(7) {
				t.Errorf("%d and one more", room)
			}
			holds(t, r, room, rising(room))
		}
	}
}

func TestTake(t *testing.T) {
	for _, room := range []int{1, 2, 5, 64} {
		for turn := range room + 1 {
			r := filled(t, room, turn, rising(room)...)
			for i := range room {
				if n, ok := r.Take(); n != 100+i || !ok {
					t.Fatalf("Take = %d %v, want %d", n, ok, 100+i)
				}
				holds(t, r, room, rising(room)[i+1:])
			}
			if n, ok := r.Take(); n != 0 || ok {
				t.Errorf("Take of none = %d %v", n, ok)
			}
			holds(t, r, room, nil)
		}
	}
}

func TestLast(t *testing.T) {
	for _, room := range []int{1, 2, 5, 64} {
		for turn := range room + 1 {
			r := filled(t, room, turn, rising(room)...)
			for i := room - 1; i >= 0; i-- {
				if n, ok := r.Last(); n != 100+i || !ok {
					t.Fatalf("Last = %d %v, want %d", n, ok, 100+i)
				}
				holds(t, r, room, rising(i))
			}
			if n, ok := r.Last(); n != 0 || ok {
				t.Errorf("Last of none = %d %v", n, ok)
			}
			holds(t, r, room, nil)
		}
	}
}

func TestAnyNumber(t *testing.T) {
	numbers := []int{0, math.MinInt, -1, math.MaxInt, 0, 1, -1}
	r := filled(t, 7, 3, numbers...)
	holds(t, r, 7, numbers)
	for _, want := range numbers {
		if n, ok := r.Take(); n != want || !ok {
			t.Errorf("Take = %d %v, want %d", n, ok, want)
		}
	}
}

func TestExample(t *testing.T) {
	r := made(t, 2)
	if !r.Put(5) || !r.Push(4) || r.Put(6) {
		t.Error("5 and 4 have room, 6 has none")
	}
	if n, ok := r.Take(); n != 4 || !ok {
		t.Errorf("Take = %d %v, want 4", n, ok)
	}
	holds(t, r, 2, []int{5})
}

// P5.3

func TestFind(t *testing.T) {
	r := filled(t, 6, 4, 3, 0, 3, -2, 0)
	for n, want := range map[int]int{3: 0, 0: 1, -2: 3, 2: -1, -9: -1, 1: -1, math.MinInt: -1, math.MaxInt: -1} {
		if at := r.Find(n); at != want {
			t.Errorf("Find(%d) = %d, want %d", n, at, want)
		}
	}
}

func TestFindOnlyWhatWaits(t *testing.T) {
	for turn := range 4 {
		r := filled(t, 4, turn, 5, 6)
		if at := r.Find(0); at != -1 {
			t.Errorf("Find(0) = %d, where no 0 waits", at)
		}
		r.Take()
		if at := r.Find(5); at != -1 {
			t.Errorf("Find(5) = %d, where 5 went", at)
		}
		r.Put(0)
		if at := r.Find(0); at != 1 {
			t.Errorf("Find(0) = %d, want 1", at)
		}
	}
}

func TestAllIsNewMemory(t *testing.T) {
	for turn := range 4 {
		r := filled(t, 4, turn, 1, 2, 3)
		l := r.All()
		spare := l[:cap(l)]
		for i := range spare {
			spare[i] = 77
		}
		holds(t, r, 4, []int{1, 2, 3})
		l = r.All()
		r.Put(4)
		r.Take()
		r.Drop(2)
		if !slices.Equal(l, []int{1, 2, 3}) {
			t.Errorf("what was told became %v", l)
		}
	}
}

// P5.4

func TestDrop(t *testing.T) {
	for _, room := range []int{1, 2, 5, 64} {
		for turn := range room + 1 {
			for _, count := range []int{0, 1, room / 2, room - 1, room} {
				for _, n := range []int{math.MinInt, -room, -1, 0, 1, 2, count - 1, count, count + 1, room, room + 1, math.MaxInt} {
					r := filled(t, room, turn, rising(count)...)
					want := max(0, min(n, count))
					if went := r.Drop(n); went != want {
						t.Fatalf("Drop(%d) of %d = %d, want %d", n, count, went, want)
					}
					holds(t, r, room, rising(count)[want:])
				}
			}
		}
	}
}

func TestClear(t *testing.T) {
	for turn := range 6 {
		for count := range 6 {
			r := filled(t, 5, turn, rising(count)...)
			r.Clear()
			holds(t, r, 5, nil)
			for _, n := range rising(5) {
				if !r.Put(n) {
					t.Fatalf("no room for %d", n)
				}
			}
			holds(t, r, 5, rising(5))
		}
	}
}

// P5.5

func TestInOrderEachOnce(t *testing.T) {
	r := made(t, 3)
	put, taken := 0, 0
	for step := range 1000 {
		if step%7 < 4 {
			if r.Put(put) {
				put++
			}
		} else if n, ok := r.Take(); ok {
			if n != taken {
				t.Fatalf("Take = %d, want %d", n, taken)
			}
			taken++
		}
		if r.Len() != put-taken || r.Len()+r.Room() != 3 {
			t.Fatalf("Len %d, Room %d, where %d were put and %d taken", r.Len(), r.Room(), put, taken)
		}
	}
	if taken < 100 {
		t.Errorf("only %d were taken", taken)
	}
}

// dice are numbers that a rule tells.
type dice uint64

func (d *dice) roll(n int) int {
	*d = *d*6364136223846793005 + 1442695040888963407
	return int(uint64(*d)>>33) % n
}

// model is what waits, in the test's own words.
type model struct {
	room int
	l    []int
}

// step does one call to both, and looks whether they answer the same.
func (m *model) step(t *testing.T, r *Ring, d *dice) {
	t.Helper()
	n := d.roll(6) - 1
	switch call := d.roll(9); call {
	case 0, 1, 2, 3:
		ok := len(m.l) < m.room
		if call < 2 && r.Put(n) != ok || call >= 2 && r.Push(n) != ok {
			t.Fatalf("a number waits, or none, where %d of %d do", len(m.l), m.room)
		}
		if ok && call < 2 {
			m.l = append(m.l, n)
		} else if ok {
			m.l = slices.Insert(m.l, 0, n)
		}
	case 4, 5:
		want, ok := 0, len(m.l) > 0
		if ok {
			want, m.l = m.l[0], m.l[1:]
		}
		if x, is := r.Take(); x != want || is != ok {
			t.Fatalf("Take = %d %v, want %d %v", x, is, want, ok)
		}
	case 6, 7:
		want, ok := 0, len(m.l) > 0
		if ok {
			want, m.l = m.l[len(m.l)-1], m.l[:len(m.l)-1]
		}
		if x, is := r.Last(); x != want || is != ok {
			t.Fatalf("Last = %d %v, want %d %v", x, is, want, ok)
		}
	default:
		want := max(0, min(n, len(m.l)))
		m.l = m.l[want:]
		if went := r.Drop(n); went != want {
			t.Fatalf("Drop(%d) = %d, want %d", n, went, want)
		}
	}
	holds(t, r, m.room, m.l)
}

func TestLongWalk(t *testing.T) {
	for _, room := range []int{1, 2, 3, 7, 64} {
		d := dice(room)
		r, m := made(t, room), model{room: room}
		for range 5000 {
			m.step(t, r, &d)
		}
	}
}

// Rule 4

func TestTwoRingsHaveNothingInCommon(t *testing.T) {
	a, b := filled(t, 3, 0, 1, 2), filled(t, 3, 0, 1, 2)
	a.Put(3)
	b.Take()
	b.Push(9)
	holds(t, a, 3, []int{1, 2, 3})
	holds(t, b, 3, []int{9, 2})
}
