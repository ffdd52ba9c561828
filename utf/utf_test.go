package utf

import (
	"math"
	"slices"
	"strings"
	"testing"

	"callboy/api"
)

// char is what a text begins with, and how many bytes that has.
type char struct{ c, size int }

// edges are characters at both ends of each length, and about the numbers that are none.
var edges = []int{0, 1, 31, 32, 'A', 'Z', 'a', 'z', 126, 127, 128, 0xe9, 0x7fe, 0x7ff, 0x800, 0xd7ff, 0xe000, 0xfffd, 0xfffe, 0xffff, 0x10000, 0x10fffe, 0x10ffff}

var notCharacters = []int{
	-1, -2, -128, math.MinInt, math.MinInt32, 0xd800, 0xd801, 0xdabc, 0xdfff, 0x110000, 0x110001, 0x1fffff, math.MaxInt32, math.MaxInt,
	1 << 32, 1<<32 + 'a', 1<<40 + 0xe9, -1<<32 + 'a', -1<<63 + 'a',
}

// wrongTexts begin with a byte that begins no character.
var wrongTexts = []string{
	"\x80", "\xbf", "\x80a", "\xa9\xc3", // bytes that only go on
	"\xc3", "\xc3a", "\xc3\xc3", "\xc3\x7f", "\xc3\xc0", // two, cut off or broken
	"\xe2", "\xe2\x82", "\xe2a\x82", "\xe2\x82a", "\xe2\x82\xc0", "\xe2\x7f\x82", // three
	"\xf0", "\xf0\x9f", "\xf0\x9f\x98", "\xf0a\x98\x80", "\xf0\x9f\x98a", "\xf0\x9f\xc0\x80", // four
	"\xc0\x80", "\xc0\xaf", "\xc1\xbf", "\xe0\x80\x80", "\xe0\x9f\xbf", "\xf0\x80\x80\x80", "\xf0\x8f\xbf\xbf", // not the shortest ones
	"\xed\xa0\x80", "\xed\xaf\xbf", "\xed\xb0\x80", "\xed\xbf\xbf", // D800 to DFFF
	"\xf4\x90\x80\x80", "\xf5\x80\x80\x80", "\xf7\xbf\xbf\xbf", "\xf8\x88\x80\x80\x80", "\xfe", "\xff", // above 10FFFF
}

// goodTexts are characters alone.
var goodTexts = []struct {
	s string
	l []int
}{
	{"", nil},
	{"a", []int{'a'}},
	{"\x00\x7f", []int{0, 127}},
	{"a\xc3\xa9", []int{'a', 0xe9}},
	{"\xe2\x82\xacb\xf0\x9f\x98\x80", []int{0x20ac, 'b', 0x1f600}},
	{"\xef\xbf\xbd", []int{0xfffd}},
	{"\xef\xbf\xbd\xef\xbb\xbfx", []int{0xfffd, 0xfeff, 'x'}},
	{"\xf4\x8f\xbf\xbf\xee\x80\x80\xed\x9f\xbf", []int{0x10ffff, 0xe000, 0xd7ff}},
}

func isOne(c int) bool { return c >= 0 && c <= 0x10ffff && (c < 0xd800 || c > 0xdfff) }

// bits lays a character by the words of the chapter.
func bits(c int) string {
	six := func(shift int) byte { return byte(0x80 | c>>shift&0x3f) }
	switch {
	case c < 0x80:
		return string([]byte{byte(c)})
	case c < 0x800:
		return string([]byte{byte(0xc0 | c>>6), six(0)})
	case c < 0x10000:
		return string([]byte{byte(0xe0 | c>>12), six(6), six(0)})
	}
	return string([]byte{byte(0xf0 | c>>18), six(12), six(6), six(0)})
}

// walk tells a text's Nexts from a list of all characters' bytes.
func walk(s string, known map[string]int) []char {
	var l []char
	for s != "" {
		x := char{-1, 1}
		for size := 1; size <= 4 && size <= len(s); size++ {
			if c, ok := known[s[:size]]; ok {
				x = char{c, size}
			}
		}
		l = append(l, x)
		s = s[x.size:]
	}
	return l
}

func knownBytes() map[string]int {
	m := map[string]int{}
	for c := range 0x110000 {
		if isOne(c) {
			m[bits(c)] = c
		}
	}
	return m
}

// mixes calls f with all texts of up to four bytes from those at which characters' bytes part.
func mixes(f func(s string)) {
	const parts = "\x00\x1f aZ\x7f\x80\x8f\x90\x9f\xa0\xbf\xc0\xc1\xc2\xdf\xe0\xe1\xec\xed\xee\xef\xf0\xf1\xf3\xf4\xf5\xff"
	level := []string{""}
	for range 5 {
		var next []string
		for _, s := range level {
			f(s)
			if len(s) == 4 {
				continue
			}
			for i := range len(parts) {
				next = append(next, s+parts[i:i+1])
			}
		}
		level = next
	}
}

// P2.1

func TestNext(t *testing.T) {
	for _, x := range []struct {
		s    string
		want char
	}{
		{"", char{-1, 0}},
		{"\xc3\xa9", char{233, 2}},
		{"\xc3\xa9\xff", char{233, 2}},
		{"a\xc3", char{'a', 1}},
		{"\x00", char{0, 1}},
		{"\xe2\x82\xac\x80", char{0x20ac, 3}},
		{"\xef\xbf\xbd", char{0xfffd, 3}},
		{"\xf0\x9f\x98\x80\x80", char{0x1f600, 4}},
		{"\xf4\x8f\xbf\xbf", char{0x10ffff, 4}},
	} {
		if c, size := Next(x.s); (char{c, size}) != x.want {
			t.Errorf("Next(%x) = %d, %d", x.s, c, size)
		}
	}
	for _, s := range wrongTexts {
		if c, size := Next(s); c != -1 || size != 1 {
			t.Errorf("Next(%x) = %d, %d", s, c, size)
		}
	}
}

func TestNextOfEveryCharacter(t *testing.T) {
	for c := range 0x110000 {
		want := char{c, len(bits(c))}
		if !isOne(c) {
			want = char{-1, 1}
		}
		for _, tail := range []string{"", "a", "\x80", "\xff"} {
			if got, size := Next(bits(c) + tail); (char{got, size}) != want {
				t.Fatalf("Next(%x) = %d, %d", bits(c)+tail, got, size)
			}
		}
	}
}

func TestCheckAndCount(t *testing.T) {
	for _, x := range goodTexts {
		if e, n := Check(x.s), Count(x.s); e != api.OK || n != len(x.l) {
			t.Errorf("%x: check %d, count %d", x.s, int(e), n)
		}
	}
	for _, s := range wrongTexts {
		for _, x := range []string{s, "a" + s, s + "\xc3\xa9", "\xf0\x9f\x98\x80" + s + "b"} {
			if e := Check(x); e != api.ErrText {
				t.Errorf("Check(%x) = %d", x, int(e))
			}
		}
	}
	for s, want := range map[string]int{
		"\xff": 1, "\xffa\xff": 3, "\xe2\x82": 2, "\xe2\x82\xac\xac": 2, "\xed\xa0\x80": 3, "\xf0\x9f\x98": 3,
		"\xc0\x80": 2, "\xf4\x90\x80\x80": 4, "a\xc3\xa9\xc3": 3, "\xc3\xc3\xa9": 2,
	} {
		if n := Count(s); n != want {
			t.Errorf("Count(%x) = %d", s, n)
		}
	}
}

func TestAllMixesOfBytes(t *testing.T) {
	known := knownBytes()
	mixes(func(s string) {
		l := walk(s, known)
		first, bad, plain := char{-1, 0}, api.OK, true
		for i, x := range l {
			if i == 0 {
				first = x
			}
			if x.c < 0 {
				bad = api.ErrText
			}
			plain = plain && x.c >= 32 && x.c != 127
		}
		if c, size := Next(s); (char{c, size}) != first {
			t.Fatalf("Next(%x) = %d, %d", s, c, size)
		}
		if e, n := Check(s), Count(s); e != bad || n != len(l) {
			t.Fatalf("%x: check %d, count %d", s, int(e), n)
		}
		if Plain(s) != plain {
			t.Fatalf("Plain(%x) = %v", s, !plain)
		}
		end := 0
		for most := range len(s) + 2 {
			if len(l) > 0 && end+l[0].size <= most {
				end, l = end+l[0].size, l[1:]
			}
			if got := Cut(s, most); got != s[:end] {
				t.Fatalf("Cut(%x, %d) = %x", s, most, got)
			}
		}
	})
}

// P2.2

func TestPut(t *testing.T) {
	for _, c := range edges {
		if s, e := Put(c); s != bits(c) || e != api.OK {
			t.Errorf("Put(%x) = %x %d", c, s, int(e))
		}
	}
	for _, c := range notCharacters {
		if s, e := Put(c); s != "" || e != api.ErrRange {
			t.Errorf("Put(%x) = %x %d", c, s, int(e))
		}
	}
}

func TestAll(t *testing.T) {
	for _, x := range goodTexts {
		if l, e := All(x.s); !slices.Equal(l, x.l) || e != api.OK {
			t.Errorf("All(%x) = %v %d", x.s, l, int(e))
		}
	}
	for _, s := range wrongTexts {
		for _, x := range []string{s, "abc" + s, s + "abc"} {
			if l, e := All(x); l != nil || e != api.ErrText {
				t.Errorf("All(%x) = %v %d", x, l, int(e))
			}
		}
	}
}

func TestOf(t *testing.T) {
	for _, x := range goodTexts {
		given := slices.Clone(x.l)
		if s, e := Of(given); s != x.s || e != api.OK {
			t.Errorf("Of(%v) = %x %d", x.l, s, int(e))
		}
		if !slices.Equal(given, x.l) {
			t.Errorf("Of(%v) left %v", x.l, given)
		}
	}
	for _, c := range notCharacters {
		for _, l := range [][]int{{c}, {'a', 'b', c}, {c, 'a'}, {c, c}} {
			if s, e := Of(l); s != "" || e != api.ErrRange {
				t.Errorf("Of(%v) = %x %d", l, s, int(e))
			}
		}
	}
}

// P2.3

func TestCut(t *testing.T) {
	const s = "a\xc3\xa9\xe2\x82\xac\xf0\x9f\x98\x80z"
	ends := []int{0, 1, 1, 3, 3, 3, 6, 6, 6, 6, 10, 11, 11, 11}
	for most, end := range ends {
		if got := Cut(s, most); got != s[:end] {
			t.Errorf("Cut at %d = %x", most, got)
		}
	}
	for _, x := range []struct {
		s    string
		most int
		want string
	}{
		{"a\xc3\xa9", 2, "a"},
		{"a\xc3\xa9", 3, "a\xc3\xa9"},
		{s, math.MaxInt, s},
		{s, -1, ""},
		{s, math.MinInt, ""},
		{"", 0, ""},
		{"", 5, ""},
		{"", -5, ""},
		{"\xc3\xa9", 1, ""},
		{"\xff\xff\xff", 2, "\xff\xff"},
		{"\xe2\x82", 1, "\xe2"},
		{"\xe2\x82", 2, "\xe2\x82"},
		{"\xe2\x82z", 2, "\xe2\x82"},
		{"\xe2\x82\xac", 2, ""},
		{"\xed\xa0\x80", 2, "\xed\xa0"},
		{"\x80\xc3\xa9", 2, "\x80"},
		{"\xf0\x9f\x98\x80a", 3, ""},
	} {
		if got := Cut(x.s, x.most); got != x.want {
			t.Errorf("Cut(%x, %d) = %x", x.s, x.most, got)
		}
	}
}

// P2.4

func TestLow(t *testing.T) {
	for x := range 256 {
		want := byte(x)
		if strings.Contains("ABCDEFGHIJKLMNOPQRSTUVWXYZ", string(rune(x))) {
			want += 32
		}
		given := string([]byte{byte(x), 'q', byte(x)})
		if got := Low(given); got != string([]byte{want, 'q', want}) {
			t.Errorf("Low(%x) = %x", given, got)
		}
	}
	for s, want := range map[string]string{
		"":                          "",
		"Ann@Home.ORG/Desk":         "ann@home.org/desk",
		"AZaz@[`{":                  "azaz@[`{",
		"\xc3\x89A\xff\xc3":         "\xc3\x89a\xff\xc3",
		"\xe2\x84\xaaK\xef\xbc\xa1": "\xe2\x84\xaak\xef\xbc\xa1",
	} {
		if got := Low(s); got != want {
			t.Errorf("Low(%x) = %x", s, got)
		}
	}
}

func TestPlain(t *testing.T) {
	for c := range 0x300 {
		want := c >= 32 && c != 127
		for _, s := range []string{bits(c), "ab" + bits(c), bits(c) + "\xc3\xa9"} {
			if Plain(s) != want {
				t.Errorf("Plain(%x) = %v", s, !want)
			}
		}
	}
	for _, c := range edges {
		if want := c >= 32 && c != 127; Plain(bits(c)) != want {
			t.Errorf("Plain(%x) = %v", bits(c), !want)
		}
	}
	for _, s := range wrongTexts {
		for _, x := range []string{s, "abc" + s, s + "abc"} {
			if Plain(x) {
				t.Errorf("Plain(%x)", x)
			}
		}
	}
	if !Plain("") {
		t.Error("the empty text is not plain")
	}
}

// P2.5

func TestPutIsRead(t *testing.T) {
	for c := range 0x110000 {
		s, e := Put(c)
		if !isOne(c) {
			if s != "" || e != api.ErrRange {
				t.Fatalf("Put(%x) = %x %d", c, s, int(e))
			}
			continue
		}
		got, size := Next(s)
		l, bad := All(s)
		if e != api.OK || s != bits(c) || got != c || size != len(s) || bad != api.OK || !slices.Equal(l, []int{c}) {
			t.Fatalf("Put(%x) = %x %d, read as %x, %d and %x", c, s, int(e), got, size, l)
		}
	}
}

func TestReadIsLaidAsItWas(t *testing.T) {
	read := 0
	mixes(func(s string) {
		l, e := All(s)
		if e != Check(s) {
			t.Fatalf("All(%x): %d", s, int(e))
		}
		if e != api.OK {
			return
		}
		read++
		if back, e := Of(l); back != s || e != api.OK {
			t.Fatalf("%x is read as %v, laid as %x %d", s, l, back, int(e))
		}
	})
	if read < 100 {
		t.Errorf("only %d texts were read", read)
	}
}

func TestAllEdgesInARow(t *testing.T) {
	s, e := Of(edges)
	l, bad := All(s)
	if e != api.OK || bad != api.OK || !slices.Equal(l, edges) || Count(s) != len(edges) || Check(s) != api.OK {
		t.Errorf("%x %d, read as %x %d", s, int(e), l, int(bad))
	}
}
