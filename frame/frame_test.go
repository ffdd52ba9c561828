package frame

import (
	"math"
	"slices"
	"strings"
	"testing"
	"unsafe"

	"callboy/api"
)

// edges are how many bytes texts have at the ends of what may be, and about them; those above 128 have no frame.
var edges = []int{1, 2, 3, 126, 127, 128, 129, 130, 254, 255, 256, 257, 258, 300, 383, 384, 385, 512, 32767, 32768, 65535, 65536, 65537, 65540, 65664, 65665, 1 << 17, 1<<24 + 2}

// pieces are bytes of which lengths and texts are made, from both ends, and about 128.
var pieces = []string{"\x00", "\x01", "\x02", "a", "\x80", "\x81", "\xff"}

// wrongs are bytes that begin with no frame, and what Get tells of them.
var wrongs = []struct {
	b    string
	want api.Errno
}{
	{"\x00", api.ErrCut},
	{"\x01", api.ErrCut},
	{"\x80", api.ErrCut},
	{"\xff", api.ErrCut},
	{"\x00\x00", api.ErrForm},
	{"\x00\x00a", api.ErrForm},
	{"\x00\x00\x00\x01a", api.ErrForm},
	{"\x00\x01", api.ErrCut},
	{"\x00\x02a", api.ErrCut},
	{"\x00\x80", api.ErrCut},
	{"\x00\x80" + strings.Repeat("a", 127), api.ErrCut},
	{"\x00\x81", api.ErrLong},
	{"\x00\x81" + strings.Repeat("a", 128), api.ErrLong},
	{"\x00\x81" + strings.Repeat("a", 129), api.ErrLong},
	{"\x01\x00", api.ErrLong},
	{"\x01\x00a", api.ErrLong},
	{"\x01\x01ab", api.ErrLong},
	{"\x80\x00a", api.ErrLong},
	{"\xff\xff", api.ErrLong},
	{"\xff\xff" + strings.Repeat("a", 65535), api.ErrLong},
}

// lists are texts that all have frames.
var lists = [][]string{
	nil,
	{"a"},
	{"hi"},
	{"\x00"},
	{"\xff", "\x00\x00", "\x00\x01a"},
	{"a", "b"},
	{"a", "a", "a"},
	{"\x00\x00", "\xff\xff", "\xc3", "\n"},
	{strings.Repeat("a", 128)},
	{strings.Repeat("\x00", 128), strings.Repeat("\xff", 128), strings.Repeat("\x80", 127)},
	{"b", strings.Repeat("c", 128), "d"},
	slices.Repeat([]string{"\x00\x01"}, 300),
}

// lengthOf is a length in two bytes, the highest first.
func lengthOf(n int) string { return string([]byte{byte(n / 256), byte(n % 256)}) }

// framed tells what Put should, in the test's own words.
func framed(s string) (string, api.Errno) {
	switch {
	case s == "":
		return "", api.ErrForm
	case len(s) > 128:
		return "", api.ErrLong
	}
	return "\x00" + string([]byte{byte(len(s))}) + s, api.OK
}

// got tells what Get should, in the test's own words.
func got(b string) (string, int, api.Errno) {
	switch {
	case len(b) < 2:
		return "", 0, api.ErrCut
	case b[0] == 0 && b[1] == 0:
		return "", 0, api.ErrForm
	case b[0] > 0 || b[1] > 128:
		return "", 0, api.ErrLong
	case len(b) < 2+int(b[1]):
		return "", 0, api.ErrCut
	}
	size := 2 + int(b[1])
	return b[2:size], size, api.OK
}

// parted tells the texts of the whole frames that bytes begin with, and what is wrong behind them.
func parted(b string) ([]string, api.Errno) {
	if b == "" {
		return nil, api.OK
	}
	s, size, e := got(b)
	if e != api.OK {
		return nil, e
	}
	l, e := parted(b[size:])
	return append([]string{s}, l...), e
}

// joined tells what Join should, in the test's own words.
func joined(l []string) (string, api.Errno) {
	if len(l) == 0 {
		return "", api.OK
	}
	last := len(l) - 1
	b, e := joined(l[:last])
	if e != api.OK {
		return "", e
	}
	f, e := framed(l[last])
	if e != api.OK {
		return "", e
	}
	return b + f, api.OK
}

// fitting tells what Fit should, in the test's own words: the most texts whose frames, all together, have no more bytes.
func fitting(l []string, most int) int {
	for n := len(l); n > 0; n-- {
		b, e := joined(l[:n])
		if e == api.OK && len(b) <= most {
			return n
		}
	}
	return 0
}

// puts looks at what Put and Size tell, and at what Get makes of it again.
func puts(t *testing.T, s string) {
	t.Helper()
	want, wanted := framed(s)
	if b, e := Put(s); b != want || e != wanted {
		t.Errorf("Put(%.20q, of %d) = %.20q %d, want %.20q %d", s, len(s), b, int(e), want, int(wanted))
	}
	if n := Size(s); n != len(want) {
		t.Errorf("Size(%.20q, of %d) = %d, want %d", s, len(s), n, len(want))
	}
	if wanted == api.OK {
		gets(t, want)
	}
}

// gets looks at what Get tells.
func gets(t *testing.T, b string) {
	t.Helper()
	want, size, wanted := got(b)
	if s, n, e := Get(b); s != want || n != size || e != wanted {
		t.Errorf("Get(%.20q, of %d) = %.20q, %d, %d, want %.20q, %d, %d", b, len(b), s, n, int(e), want, size, int(wanted))
	}
}

// parts looks at what All and Count tell, and whether Join joins as it was what All tells.
func parts(t *testing.T, b string) {
	t.Helper()
	want, wanted := parted(b)
	if n := Count(b); n != len(want) {
		t.Errorf("Count(%.40q, of %d) = %d, want %d", b, len(b), n, len(want))
	}
	if wanted != api.OK {
		want = nil
	}
	l, e := All(b)
	if !slices.Equal(l, want) || e != wanted {
		t.Errorf("All(%.40q, of %d) = %.40q %d, want %.40q %d", b, len(b), l, int(e), want, int(wanted))
	}
	if wanted != api.OK {
		return
	}
	if back, e := Join(l); back != b || e != api.OK {
		t.Errorf("Join(All(%.40q)) = %.40q %d", b, back, int(e))
	}
}

// joins looks at what Join tells, whether All tells again what was joined, and whether the slice stayed as it was.
func joins(t *testing.T, l []string) {
	t.Helper()
	want, wanted := joined(l)
	given := slices.Clone(l)
	b, e := Join(l)
	if b != want || e != wanted {
		t.Errorf("Join(%.40q) = %.40q %d, want %.40q %d", l, b, int(e), want, int(wanted))
	}
	if !slices.Equal(l, given) {
		t.Errorf("Join(%.40q) left %.40q", given, l)
	}
	if wanted != api.OK {
		return
	}
	if back, e := All(want); !slices.Equal(back, l) || e != api.OK || Count(want) != len(l) {
		t.Errorf("All(%.40q) = %.40q %d", want, back, int(e))
	}
}

// fits looks at what Fit tells, and whether the slice stayed as it was.
func fits(t *testing.T, l []string, most, want int) {
	t.Helper()
	given := slices.Clone(l)
	if n := Fit(l, most); n != want {
		t.Errorf("Fit(%.40q, %d) = %d, want %d", l, most, n, want)
	}
	if !slices.Equal(l, given) {
		t.Errorf("Fit(%.40q, %d) left %.40q", given, most, l)
	}
}

// P11.1

func TestPut(t *testing.T) {
	for _, x := range []struct {
		s, want string
		wanted  api.Errno
	}{
		{"hi", "\x00\x02hi", api.OK},
		{"", "", api.ErrForm},
		{"a", "\x00\x01a", api.OK},
		{"\x00", "\x00\x01\x00", api.OK},
		{"\xff", "\x00\x01\xff", api.OK},
		{"\x00\x01a", "\x00\x03\x00\x01a", api.OK},
		{strings.Repeat("a", 127), "\x00\x7f" + strings.Repeat("a", 127), api.OK},
		{strings.Repeat("a", 128), "\x00\x80" + strings.Repeat("a", 128), api.OK},
		{strings.Repeat("a", 129), "", api.ErrLong},
		{strings.Repeat("a", 256), "", api.ErrLong},
		{strings.Repeat("a", 257), "", api.ErrLong},
		{strings.Repeat("a", 300), "", api.ErrLong},
	} {
		if b, e := Put(x.s); b != x.want || e != x.wanted {
			t.Errorf("Put(%q) = %q %d", x.s, b, int(e))
		}
		if n := Size(x.s); n != len(x.want) {
			t.Errorf("Size(%q) = %d", x.s, n)
		}
	}
}

func TestPutOfAllLengths(t *testing.T) {
	for _, piece := range []string{"a", "\x00", "\xff", "\x00\x01", "\u20ac"} {
		long := strings.Repeat(piece, 301)
		for n := range 301 {
			puts(t, long[:n])
		}
	}
	long := strings.Repeat("\x00\x01a\xff", 1<<22+1)
	for _, n := range edges {
		puts(t, long[:n])
	}
}

func TestPutOfAllBytes(t *testing.T) {
	for c := range 256 {
		x := string([]byte{byte(c)})
		for _, s := range []string{x, x + "a", "a" + x, strings.Repeat(x, 127), strings.Repeat(x, 128), strings.Repeat(x, 129), strings.Repeat("a", 127) + x} {
			puts(t, s)
		}
	}
}

// P11.2

func TestGet(t *testing.T) {
	for _, x := range []struct {
		b, want string
		size    int
	}{
		{"\x00\x02hi", "hi", 4},
		{"\x00\x02hi!", "hi", 4},
		{"\x00\x01a\x00\x01b", "a", 3},
		{"\x00\x01a\x00\x00", "a", 3},
		{"\x00\x01a\xff", "a", 3},
		{"\x00\x01\x00", "\x00", 3},
		{"\x00\x02\xff\xff", "\xff\xff", 4},
		{"\x00\x80" + strings.Repeat("b", 128), strings.Repeat("b", 128), 130},
		{"\x00\x80" + strings.Repeat("b", 129), strings.Repeat("b", 128), 130},
	} {
		if s, n, e := Get(x.b); s != x.want || n != x.size || e != api.OK {
			t.Errorf("Get(%q) = %q, %d, %d", x.b, s, n, int(e))
		}
	}
	if s, n, e := Get(""); s != "" || n != 0 || e != api.ErrCut {
		t.Errorf("Get of no bytes = %q, %d, %d", s, n, int(e))
	}
	for _, x := range wrongs {
		if s, n, e := Get(x.b); s != "" || n != 0 || e != x.want {
			t.Errorf("Get(%.20q, of %d) = %q, %d, %d, want %d", x.b, len(x.b), s, n, int(e), int(x.want))
		}
	}
}

func TestGetOfAllLengths(t *testing.T) {
	gets(t, "")
	for c := range 256 {
		gets(t, string([]byte{byte(c)}))
	}
	for n := range 1 << 16 {
		for _, s := range []string{"", "a", strings.Repeat("b", 127), strings.Repeat("\x00", 128), strings.Repeat("\xff", 129)} {
			gets(t, lengthOf(n)+s)
		}
	}
}

func TestGetOfTextsAboutTheirLength(t *testing.T) {
	long := strings.Repeat("\x00\x02hi\xff", 14000)
	for _, n := range []int{0, 1, 2, 127, 128, 129, 130, 255, 256, 257, 384, 511, 512, 32768, 65534, 65535} {
		for _, whole := range []int{0, 1, n - 1, n, n + 1, n + 2, n + 200, n % 256, n / 256} {
			gets(t, lengthOf(n)+long[:max(whole, 0)])
		}
	}
	for n := range 131 {
		for whole := range 132 {
			gets(t, lengthOf(n)+long[:whole])
		}
	}
}

// P11.3

func TestAll(t *testing.T) {
	for _, x := range []struct {
		b    string
		want []string
	}{
		{"", nil},
		{"\x00\x02hi", []string{"hi"}},
		{"\x00\x01a\x00\x02bc", []string{"a", "bc"}},
		{"\x00\x01\x00\x00\x01\x00\x00\x01\x00", []string{"\x00", "\x00", "\x00"}},
		{"\x00\x03\x00\x01a\x00\x01\xff", []string{"\x00\x01a", "\xff"}},
	} {
		if l, e := All(x.b); !slices.Equal(l, x.want) || e != api.OK || Count(x.b) != len(x.want) {
			t.Errorf("All(%q) = %q %d, Count = %d", x.b, l, int(e), Count(x.b))
		}
		parts(t, x.b)
	}
}

func TestAllOfWrongBytes(t *testing.T) {
	for many, l := range [][]string{nil, {"a"}, {"\x00\x00", strings.Repeat("b", 128)}, {"a", "\xff", "\x00\x01a"}} {
		begin, _ := joined(l)
		for _, x := range wrongs {
			for _, b := range []string{begin + x.b, begin + x.b + "\x00"} {
				parts(t, b)
			}
			if l, e := All(begin + x.b); len(l) != 0 || e != x.want {
				t.Errorf("All(%.40q) = %q %d, want %d", begin+x.b, l, int(e), int(x.want))
			}
			if n := Count(begin + x.b); n != many {
				t.Errorf("Count(%.40q) = %d, want %d", begin+x.b, n, many)
			}
		}
		// What is wrong first is told, and a whole frame behind it is not counted.
		for _, x := range wrongs {
			parts(t, begin+"\x00\x00"+x.b+"\x00\x01a")
			parts(t, begin+"\x00\x81"+x.b+"\x00\x01a")
		}
	}
}

func TestAllOfSmallBytes(t *testing.T) {
	var lay func(b string, left int)
	lay = func(b string, left int) {
		gets(t, b)
		parts(t, b)
		if left == 0 {
			return
		}
		for _, x := range pieces {
			lay(b+x, left-1)
		}
	}
	lay("", 5)
	// Behind the first byte of a length that may be more is told.
	lay("\x00", 6)
	lay("\x00\x01\x00\x00\x01", 4)
}

func TestAllCuts(t *testing.T) {
	for _, l := range lists {
		b, _ := joined(l)
		for at := range len(b) + 1 {
			parts(t, b[:at])
		}
		for at := range min(len(b), 150) {
			parts(t, b[at:])
		}
	}
}

func TestAllOfChangedBytes(t *testing.T) {
	for _, l := range lists[:11] {
		b, _ := joined(l)
		for at := range min(len(b), 140) {
			for c := range 256 {
				parts(t, b[:at]+string([]byte{byte(c)})+b[at+1:])
			}
		}
	}
}

func TestJoin(t *testing.T) {
	for _, x := range []struct {
		l    []string
		want string
	}{
		{nil, ""},
		{[]string{}, ""},
		{[]string{"hi"}, "\x00\x02hi"},
		{[]string{"a", "bc"}, "\x00\x01a\x00\x02bc"},
		{[]string{"b", "a", "b"}, "\x00\x01b\x00\x01a\x00\x01b"},
		{[]string{"\x00", "\xff"}, "\x00\x01\x00\x00\x01\xff"},
	} {
		if b, e := Join(x.l); b != x.want || e != api.OK {
			t.Errorf("Join(%q) = %q %d", x.l, b, int(e))
		}
	}
	for _, l := range lists {
		joins(t, l)
	}
}

func TestJoinOfTextsWithoutFrames(t *testing.T) {
	long := strings.Repeat("b", 129)
	for _, x := range []struct {
		l    []string
		want api.Errno
	}{
		{[]string{""}, api.ErrForm},
		{[]string{long}, api.ErrLong},
		{[]string{strings.Repeat("b", 300)}, api.ErrLong},
		{[]string{"", "a", "b"}, api.ErrForm},
		{[]string{"a", "", "b"}, api.ErrForm},
		{[]string{"a", "b", ""}, api.ErrForm},
		{[]string{long, "a", "b"}, api.ErrLong},
		{[]string{"a", long, "b"}, api.ErrLong},
		{[]string{"a", "b", long}, api.ErrLong},
		{[]string{"", long}, api.ErrForm},
		{[]string{long, ""}, api.ErrLong},
		{[]string{"a", "", "b", long, "c"}, api.ErrForm},
		{[]string{"a", long, "b", "", "c"}, api.ErrLong},
	} {
		if b, e := Join(x.l); b != "" || e != x.want {
			t.Errorf("Join(%.40q) = %q %d, want %d", x.l, b, int(e), int(x.want))
		}
		joins(t, x.l)
	}
	for _, l := range lists {
		for at := range min(len(l), 5) + 1 {
			joins(t, slices.Insert(slices.Clone(l), at, ""))
			joins(t, slices.Insert(slices.Clone(l), at, long))
		}
	}
}

func TestCount(t *testing.T) {
	for b, want := range map[string]int{
		"": 0, "\x00": 0, "\x00\x01": 0, "\x00\x01a": 1, "\x00\x01a\x00": 1, "\x00\x01a\x00\x01": 1, "\x00\x01a\x00\x01b": 2, "\x00\x00\x00\x01a": 0,
		"\x00\x01a\x00\x00\x00\x01b": 1, "\x00\x01a\x00\x81\x00\x01b": 1, "\x00\x01a\x00\x01b\xff\xff": 2, "\x01\x01\x00\x01a": 0, "\x00\x02\x00\x01a": 1,
	} {
		if n := Count(b); n != want {
			t.Errorf("Count(%q) = %d, want %d", b, n, want)
		}
	}
	b := strings.Repeat("\x00\x01a", 100000)
	for _, x := range []struct {
		b    string
		want int
	}{{b, 100000}, {b + "\x00\x02a", 100000}, {b[:len(b)-1], 99999}, {b[1:], 0}} {
		if n := Count(x.b); n != x.want {
			t.Errorf("Count of %d bytes = %d, want %d", len(x.b), n, x.want)
		}
	}
}

// P11.4

func TestFit(t *testing.T) {
	long := strings.Repeat("b", 129)
	full := strings.Repeat("b", 128)
	for _, x := range []struct {
		l          []string
		most, want int
	}{
		{nil, -1, 0}, {nil, 0, 0}, {nil, math.MaxInt, 0}, {nil, math.MinInt, 0},
		{[]string{"a"}, math.MinInt, 0}, {[]string{"a"}, math.MinInt + 3, 0}, {[]string{"a"}, -3, 0}, {[]string{"a"}, -1, 0},
		{[]string{"a"}, 0, 0}, {[]string{"a"}, 1, 0}, {[]string{"a"}, 2, 0}, {[]string{"a"}, 3, 1}, {[]string{"a"}, 4, 1}, {[]string{"a"}, math.MaxInt, 1},
		{[]string{"a", "b"}, 3, 1}, {[]string{"a", "b"}, 5, 1}, {[]string{"a", "b"}, 6, 2}, {[]string{"a", "b"}, 7, 2}, {[]string{"a", "b"}, math.MaxInt, 2},
		{[]string{full}, 128, 0}, {[]string{full}, 129, 0}, {[]string{full}, 130, 1}, {[]string{full}, 131, 1},
		// One that would fit behind one that does not is not told.
		{[]string{"abc", "a"}, 4, 0}, {[]string{"a", "abc", "a"}, 7, 1}, {[]string{"a", "abc", "a"}, 6, 1}, {[]string{"a", full, "a"}, 100, 1},
		{[]string{""}, -1, 0}, {[]string{""}, 0, 0}, {[]string{""}, 100, 0}, {[]string{long}, 1000, 0}, {[]string{long}, math.MaxInt, 0},
		{[]string{"", "a"}, 100, 0}, {[]string{"a", "", "b"}, 100, 1}, {[]string{"a", "b", ""}, 100, 2}, {[]string{long, "a"}, 1000, 0},
		{[]string{"a", long, "b"}, 1000, 1}, {[]string{"a", "b", long}, 1000, 2}, {[]string{"a", "b", long}, 3, 1}, {[]string{"a", "", "b"}, 2, 0}, {[]string{"a", "", "b"}, 3, 1},
		{[]string{"a", "", "b"}, math.MaxInt, 1}, {[]string{"a", long, "b"}, math.MaxInt, 1},
	} {
		fits(t, x.l, x.most, x.want)
	}
}

func TestFitOfAllRoom(t *testing.T) {
	long := strings.Repeat("b", 129)
	all := slices.Clone(lists[:11])
	for _, l := range lists[:11] {
		for at := range len(l) + 1 {
			all = append(all, slices.Insert(slices.Clone(l), at, ""), slices.Insert(slices.Clone(l), at, long))
		}
	}
	all = append(all, []string{"", long}, []string{long, ""}, []string{"a", "", long, "b"}, []string{"a", long, "", "b"})
	for _, l := range all {
		for most := -4; most < 400; most++ {
			fits(t, l, most, fitting(l, most))
		}
		for _, most := range []int{math.MinInt, math.MinInt + 1, -1 << 32, 1 << 16, 1 << 32, math.MaxInt - 1, math.MaxInt} {
			fits(t, l, most, fitting(l, most))
		}
	}
	many := lists[11]
	for n := range 301 {
		fits(t, many, 4*n-1, max(n-1, 0))
		fits(t, many, 4*n, n)
		fits(t, many, 4*n+1, n)
	}
}

// P11.5

// draw goes on to the next number.
func draw(seed *uint64, below int) int {
	*seed = *seed*6364136223846793005 + 1442695040888963407
	return int(*seed >> 33 % uint64(below))
}

// drawn are texts, of which most have frames.
func drawn(seed *uint64) []string {
	l := make([]string, draw(seed, 9))
	for i := range l {
		size := 1 + draw(seed, 5)
		switch draw(seed, 25) {
		case 0:
			size = 0
		case 1:
			size = 127 + draw(seed, 3)
		}
		b := make([]byte, size)
		for at := range b {
			b[at] = byte(draw(seed, 256))
		}
		l[i] = string(b)
	}
	return l
}

func TestWhatIsJoinedIsTold(t *testing.T) {
	seed := uint64(11)
	for range 20000 {
		l := drawn(&seed)
		joins(t, l)
		b, e := Join(l)
		if e != api.OK {
			continue
		}
		parts(t, b)
		sum := 0
		for _, s := range l {
			sum += Size(s)
		}
		if sum != len(b) || Fit(l, sum) != len(l) || len(l) > 0 && Fit(l, sum-1) != len(l)-1 {
			t.Errorf("%q: %d bytes of %d, Fit = %d, %d", l, sum, len(b), Fit(l, sum), Fit(l, sum-1))
		}
		if b != "" {
			at, c := draw(&seed, len(b)), draw(&seed, 256)
			parts(t, b[:at]+string([]byte{byte(c)})+b[at+1:])
			parts(t, b[:at])
			parts(t, b[at:])
		}
	}
}

// What is told is new memory: a text over bytes that change afterwards shows what was not copied.

// over is a text that stands in the bytes.
func over(b []byte) string { return unsafe.String(unsafe.SliceData(b), len(b)) }

func TestWhatIsToldStays(t *testing.T) {
	b := []byte("hello")
	f, _ := Put(over(b))
	j, _ := Join([]string{over(b)})
	clear(b)
	if f != "\x00\x05hello" || j != "\x00\x05hello" {
		t.Errorf("Put, Join: %q, %q", f, j)
	}
	b = []byte("\x00\x02hi\x00\x01a")
	s, _, _ := Get(over(b))
	l, _ := All(over(b))
	other, _ := All(over(b))
	clear(b)
	if s != "hi" || !slices.Equal(l, []string{"hi", "a"}) {
		t.Errorf("Get, All: %q, %q", s, l)
	}
	clear(l[:cap(l)])
	if !slices.Equal(other, []string{"hi", "a"}) {
		t.Errorf("All: %q, when another answer changed", other)
	}
}

func TestSlicesStay(t *testing.T) {
	spare := []string{"a", "bc", "d", "e"}
	l := spare[:2]
	b, e := Join(l)
	n := Fit(l, 100)
	if !slices.Equal(spare, []string{"a", "bc", "d", "e"}) {
		t.Errorf("left %q", spare)
	}
	clear(spare)
	if b != "\x00\x01a\x00\x02bc" || e != api.OK || n != 2 {
		t.Errorf("Join, Fit: %q %d, %d", b, int(e), n)
	}
}

func TestExample(t *testing.T) {
	if b, e := Put("hi"); b != "\x00\x02\x68\x69" || e != api.OK {
		t.Errorf("Put = %x %d", b, int(e))
	}
}
