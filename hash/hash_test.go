package hash

import (
	"math"
	"slices"
	"strings"
	"testing"
)

// allBytes is each byte once.
func allBytes() string {
	var b []byte
	for i := range 256 {
		b = append(b, byte(i))
	}
	return string(b)
}

// texts are texts of all kinds: of none, of controls, of characters, and of bytes that are none.
func texts() []string {
	return []string{
		"", "a", "b", "ab", "ba", "foobar", "\x00", "\x00\x00", "\xff", "\x80", "\u00e9", "a\x00b",
		"ann@here/desk", allBytes(), strings.Repeat("x", 1000),
	}
}

// edges are numbers at both ends, and about each bit.
func edges() []uint64 {
	l := []uint64{0, math.MaxUint64}
	for bit := range 64 {
		n := uint64(1) << bit
		l = append(l, n, n-1, n+1, ^n)
	}
	return l
}

var notRooms = []int{math.MinInt, math.MinInt + 1, -256, -2, -1, 0}

// P6.1

func TestOf(t *testing.T) {
	for s, want := range map[string]uint32{
		"":              0x811c9dc5,
		"a":             0xe40c292c,
		"b":             0xe70c2de5,
		"ab":            0x4d2505ca,
		"foobar":        0xbf9cf968,
		"\x00":          0x050c5d1f,
		"\x00\x00":      0x117697cd,
		"\x80":          0x850b939f,
		"\xff":          0x7a0b824e,
		"\u00e9":        0x1e9de8c1,
		"a\x00":         0x2b24d044,
		"ann@here/desk": 0x6b34246e,
		allBytes():      0x90a458c5,
	} {
		if h := Of(s); h != want {
			t.Errorf("Of(%q) = %08x, want %08x", s, h, want)
		}
	}
}

func TestExample(t *testing.T) {
	if Of("") != 0x811c9dc5 || Of("a") != 0xe40c292c {
		t.Errorf("%08x %08x", Of(""), Of("a"))
	}
}

func TestMore(t *testing.T) {
	for _, x := range []struct {
		h    uint32
		s    string
		want uint32
	}{
		{0, "", 0}, {7, "", 7}, {math.MaxUint32, "", math.MaxUint32},
		{0, "\x00", 0}, {0, "\x01", 16777619}, {1, "\x01", 0}, {1, "\x00", 16777619},
		{0xff, "\xff", 0}, {0x100, "\x00", 0x00019300}, {math.MaxUint32, "\xff", 0xfffe6d00},
		{2166136261, "foobar", 0xbf9cf968}, {0xe40c292c, "b", 0x4d2505ca},
	} {
		if h := More(x.h, x.s); h != x.want {
			t.Errorf("More(%x, %q) = %08x, want %08x", x.h, x.s, h, x.want)
		}
	}
}

func TestPair(t *testing.T) {
	for _, x := range []struct {
		a, b string
		want uint32
	}{
		{"", "", 0x050c5d1f}, {"", "\x00", 0x117697cd}, {"\x00", "", 0x117697cd},
		{"a", "", 0x2b24d044}, {"", "b", 0x6f772bc7}, {"a", "b", 0x10f3abd2}, {"ann", "bob", 0xd6e48893},
	} {
		if h := Pair(x.a, x.b); h != x.want {
			t.Errorf("Pair(%q, %q) = %08x, want %08x", x.a, x.b, h, x.want)
		}
	}
	for _, a := range texts() {
		for _, b := range texts() {
			if Pair(a, b) != Of(a+"\x00"+b) {
				t.Errorf("Pair(%q, %q) = %08x", a, b, Pair(a, b))
			}
		}
	}
}

func TestPairTellsTheTwoApart(t *testing.T) {
	if Pair("ab", "c") == Pair("a", "bc") || Pair("a", "b") == Pair("b", "a") || Pair("a", "") == Pair("", "a") {
		t.Error("two pairs have one number")
	}
}

// P6.2

func TestMix(t *testing.T) {
	for n, want := range map[uint64]uint64{
		0:              0,
		1:              0x5692161d100b05e5,
		2:              0xdbd238973a2b148a,
		1 << 30:        0x2ba0091cc9e3ceff,
		1 << 31:        0xec105bf588587c9f,
		1 << 63:        0x25c26ea579cea98a,
		math.MaxUint64: 0xb4d055fcf2cbbd7b,
	} {
		if m := Mix(n); m != want {
			t.Errorf("Mix(%x) = %x, want %x", n, m, want)
		}
	}
}

func TestDraw(t *testing.T) {
	for _, x := range []struct {
		seed    uint64
		numbers []uint64
	}{
		{0, []uint64{0xe220a8397b1dcdaf, 0x6e789e6aa1b965f4, 0x06c45d188009454f}},
		{1, []uint64{0x910a2dec89025cc1, 0xbeeb8da1658eec67, 0xf893a2eefb32555e}},
		{1234567, []uint64{6457827717110365317, 3203168211198807973, 9817491932198370423}},
		{1 << 63, []uint64{0x481ec0a212a9f3db, 0xc46fa638a6309012, 0x61a685ffc80a8140}},
		{math.MaxUint64, []uint64{0xe4d971771b652c20, 0xe99ff867dbf682c9, 0x382ff84cb27281e9}},
	} {
		seed := x.seed
		for i, want := range x.numbers {
			next, n := Draw(seed)
			if next != seed+0x9e3779b97f4a7c15 || n != want {
				t.Errorf("seed %x, the %d-th: %x %x, want %x", x.seed, i, next, n, want)
			}
			seed = next
		}
	}
}

func TestDrawIsMixOfTheNextSeed(t *testing.T) {
	for _, seed := range edges() {
		if next, n := Draw(seed); n != Mix(next) || next-seed != 0x9e3779b97f4a7c15 {
			t.Errorf("Draw(%x) = %x %x", seed, next, n)
		}
	}
}

// What is drawn of a seed hangs on that seed alone: no function value outlives the call.
func TestDrawKeepsNothing(t *testing.T) {
	for _, seed := range edges() {
		next, n := Draw(seed)
		Draw(seed + 1)
		Draw(next)
		if again, m := Draw(seed); again != next || m != n {
			t.Errorf("Draw(%x) = %x %x, and then %x %x", seed, next, n, again, m)
		}
	}
}

func TestDrawsGoOnWithTheirSeed(t *testing.T) {
	one, other := draws(5), draws(5)
	seed := uint64(5)
	for i := range 10 {
		next, want := Draw(seed)
		if s, n := one(); s != next || n != want {
			t.Errorf("the %d-th: %x %x, want %x %x", i, s, n, next, want)
		}
		seed = next
	}
	first, want := Draw(5)
	if s, n := other(); s != first || n != want {
		t.Errorf("the other one begins with %x %x, want %x %x", s, n, first, want)
	}
}

// P6.3

func TestSlot(t *testing.T) {
	for _, x := range []struct {
		h    uint32
		room int
		want int
	}{
		{0, 1, 0}, {7, 1, 0}, {math.MaxUint32, 1, 0},
		{6, 7, 6}, {7, 7, 0}, {8, 7, 1},
		{255, 256, 255}, {256, 256, 0}, {257, 256, 1}, {256, 257, 256}, {1000, 300, 100},
		{1 << 31, 256, 0}, {math.MaxUint32, 256, 255}, {math.MaxUint32, 1000, 295}, {1<<31 + 1, 1 << 31, 1},
		{math.MaxUint32, math.MaxUint32, 0}, {math.MaxUint32, 1 << 32, math.MaxUint32}, {5, 1<<32 + 3, 5},
		{math.MaxUint32, math.MaxInt, math.MaxUint32}, {0, math.MaxInt, 0},
	} {
		if at := Slot(x.h, x.room); at != x.want {
			t.Errorf("Slot(%d, %d) = %d, want %d", x.h, x.room, at, x.want)
		}
	}
	for _, room := range notRooms {
		for _, h := range []uint32{0, 1, 5, 1 << 31, math.MaxUint32} {
			if at := Slot(h, room); at != 0 {
				t.Errorf("Slot(%d, %d) = %d", h, room, at)
			}
		}
	}
}

func TestBelow(t *testing.T) {
	for _, x := range []struct {
		n    uint64
		most int
		want int
	}{
		{0, 1, 0}, {7, 1, 0}, {math.MaxUint64, 1, 0},
		{6, 7, 6}, {7, 7, 0}, {8, 7, 1}, {17, 16, 1},
		{255, 256, 255}, {256, 256, 0}, {257, 256, 1}, {256, 257, 256},
		{1<<63 + 5, 256, 5}, {math.MaxUint64, 256, 255}, {math.MaxUint64, 10, 5},
		{1<<32 + 5, 1 << 32, 5}, {1<<33 - 1, 1 << 32, 1<<32 - 1}, {1 << 32, 1000, 296},
		{math.MaxInt, math.MaxInt, 0}, {math.MaxInt - 1, math.MaxInt, math.MaxInt - 1}, {1 << 63, math.MaxInt, 1},
		{math.MaxUint64, math.MaxInt, 1},
	} {
		if n := Below(x.n, x.most); n != x.want {
			t.Errorf("Below(%d, %d) = %d, want %d", x.n, x.most, n, x.want)
		}
	}
	for _, most := range notRooms {
		for _, n := range edges() {
			if m := Below(n, most); m != 0 {
				t.Errorf("Below(%d, %d) = %d", n, most, m)
			}
		}
	}
}

// P6.4

func TestSpread(t *testing.T) {
	l := []string{"a", "b", "c", "a", ""}
	for room, want := range map[int][]int{1: {5}, 2: {3, 2}, 4: {2, 2, 1, 0}} {
		if counts := Spread(l, room); !slices.Equal(counts, want) {
			t.Errorf("Spread of %d = %v, want %v", room, counts, want)
		}
	}
	counts := Spread(l, 256)
	want := make([]int, 256)
	for at, n := range map[int]int{44: 2, 82: 1, 197: 1, 229: 1} {
		want[at] = n
	}
	if !slices.Equal(counts, want) {
		t.Errorf("Spread of 256 = %v", counts)
	}
}

func TestSpreadOfNoTexts(t *testing.T) {
	for _, room := range []int{1, 2, 255, 256} {
		for _, l := range [][]string{nil, {}} {
			if counts := Spread(l, room); !slices.Equal(counts, make([]int, room)) {
				t.Errorf("Spread of %d = %v", room, counts)
			}
		}
	}
}

func TestSpreadOutOfRange(t *testing.T) {
	for _, room := range append([]int{257, 258, 512, 1 << 32, 1<<32 + 1, math.MaxInt}, notRooms...) {
		for _, l := range [][]string{nil, texts()} {
			if counts := Spread(l, room); len(counts) != 0 {
				t.Errorf("Spread of %d = %v", room, counts)
			}
		}
	}
}

func TestSpreadIsNewMemory(t *testing.T) {
	l := texts()
	first := Spread(l, 4)
	want := slices.Clone(first)
	spare := first[:cap(first)]
	for i := range spare {
		spare[i] = 99
	}
	if counts := Spread(l, 4); !slices.Equal(counts, want) {
		t.Errorf("Spread = %v, want %v", counts, want)
	}
	if !slices.Equal(l, texts()) {
		t.Error("the texts were changed")
	}
}

// P6.5

func TestNumberGoesOnOverParts(t *testing.T) {
	for _, s := range texts() {
		for cut := range len(s) + 1 {
			if More(Of(s[:cut]), s[cut:]) != Of(s) {
				t.Fatalf("%q, cut at %d", s, cut)
			}
		}
		h := Of("")
		for i := range len(s) {
			h = More(h, s[i:i+1])
		}
		if h != Of(s) {
			t.Errorf("%q, a byte at a time: %08x, want %08x", s, h, Of(s))
		}
	}
}

func TestEachTextIsInOneSlot(t *testing.T) {
	for _, room := range []int{1, 2, 3, 7, 64, 255, 256} {
		for _, s := range texts() {
			counts := Spread([]string{s}, room)
			if len(counts) != room {
				t.Fatalf("Spread of %d has %d", room, len(counts))
			}
			for at, n := range counts {
				if is := at == Slot(Of(s), room); is && n != 1 || !is && n != 0 {
					t.Errorf("%q of %d: %d in slot %d", s, room, n, at)
				}
			}
		}
		sum := 0
		for _, n := range Spread(texts(), room) {
			sum += n
		}
		if sum != len(texts()) {
			t.Errorf("%d of %d texts are in slots", sum, len(texts()))
		}
	}
}

// unshifted is the number that made m when it was held against itself shifted by so much.
func unshifted(m uint64, by int) uint64 {
	n := m
	for range 64 / by {
		n = m ^ n>>by
	}
	return n
}

// unmixed is the number that Mix made m of. The factors are those whose product with Mix's ones is 1, modulo 2^64.
func unmixed(m uint64) uint64 {
	m = unshifted(m, 31) * 0x319642b2d24d8ec3
	m = unshifted(m, 27) * 0x96de1b173f119089
	return unshifted(m, 30)
}

// As each number can be told from its Mix, no two have the same one.
func TestMixIsNeverTheSameOfTwo(t *testing.T) {
	for _, n := range edges() {
		if back := unmixed(Mix(n)); back != n {
			t.Fatalf("%x is mixed of %x, and of %x", Mix(n), n, back)
		}
	}
	seed := uint64(3)
	for range 20000 {
		seed = seed*6364136223846793005 + 1442695040888963407
		if back := unmixed(Mix(seed)); back != seed {
			t.Fatalf("%x is mixed of %x, and of %x", Mix(seed), seed, back)
		}
	}
	seen := map[uint64]bool{}
	for n := range uint64(20000) {
		if seen[Mix(n)] {
			t.Fatalf("Mix(%d) was there", n)
		}
		seen[Mix(n)] = true
	}
}

func TestSlotAndBelowAreInTheRoom(t *testing.T) {
	for _, room := range []int{1, 2, 3, 256, 257, 1000, math.MaxInt} {
		for _, n := range edges() {
			if at := Slot(uint32(n), room); at < 0 || at >= room {
				t.Errorf("Slot(%d, %d) = %d", uint32(n), room, at)
			}
			if m := Below(n, room); m < 0 || m >= room {
				t.Errorf("Below(%d, %d) = %d", n, room, m)
			}
		}
	}
}
