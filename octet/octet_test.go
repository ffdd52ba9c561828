package octet

import (
	"fmt"
	"math"
	"slices"
	"strings"
	"testing"

	"callboy/api"
)

var widths = []int{1, 2, 4, 6}

var notWidths = []int{math.MinInt, -6, -1, 0, 3, 5, 7, 8, 64, math.MaxInt}

// broken are Reads whose At is at no place of their text, and that have no error yet.
var broken = []Read{
	{S: "", At: 1},
	{S: "", At: -1},
	{S: "\x01ab", At: 4},
	{S: "\x01ab", At: -1},
	{S: "\x01ab", At: math.MaxInt},
	{S: "\x01ab", At: math.MinInt},
}

// reads are all the calls that read on, with what they read laid bare.
var reads = []struct {
	name string
	call func(Read) (Read, string)
}{
	{"Num", func(r Read) (Read, string) {
		r, n := Num(r, 1)
		return r, zeroOr(n)
	}},
	{"Num of no width", func(r Read) (Read, string) {
		r, n := Num(r, 3)
		return r, zeroOr(n)
	}},
	{"Text", func(r Read) (Read, string) { return Text(r, 9) }},
	{"Text of nothing", func(r Read) (Read, string) { return Text(r, -1) }},
	{"Rest", Rest},
}

func zeroOr(n int) string {
	if n == 0 {
		return ""
	}
	return fmt.Sprint(n)
}

// P1.1

func TestOpenBeginsAtTheFront(t *testing.T) {
	for _, s := range []string{"", "a", "\x00\xff", strings.Repeat("x", 1000)} {
		if r := Open(s); r != (Read{S: s}) {
			t.Errorf("Open(%q) = %+v", s, r)
		}
	}
}

func TestBrokenPlaceCountsAsErrArg(t *testing.T) {
	for _, r := range broken {
		want := Read{S: r.S, At: r.At, Bad: api.ErrArg}
		for _, x := range reads {
			if got, s := x.call(r); got != want || s != "" {
				t.Errorf("%s of %+v = %+v %q", x.name, r, got, s)
			}
		}
		if n, e := Left(r), Done(r); n != 0 || e != api.ErrArg {
			t.Errorf("%+v: left %d, done %d", r, n, int(e))
		}
	}
}

func TestBrokenPlaceKeepsItsError(t *testing.T) {
	for _, r := range broken {
		r.Bad = api.ErrSpent
		for _, x := range reads {
			if got, s := x.call(r); got != r || s != "" {
				t.Errorf("%s of %+v = %+v %q", x.name, r, got, s)
			}
		}
		if n, e := Left(r), Done(r); n != 0 || e != api.ErrSpent {
			t.Errorf("%+v: left %d, done %d", r, n, int(e))
		}
	}
}

func TestEndOfTextIsAPlace(t *testing.T) {
	end := Read{S: "abc", At: 3}
	if r, s := Rest(end); r != end || s != "" {
		t.Errorf("Rest = %+v %q", r, s)
	}
	if n, e := Left(end), Done(end); n != 0 || e != api.OK {
		t.Errorf("left %d, done %d", n, int(e))
	}
	if r, n := Num(end, 1); r != (Read{S: "abc", At: 3, Bad: api.ErrCut}) || n != 0 {
		t.Errorf("Num = %+v %d", r, n)
	}
}

// P1.2

func TestNumReadsTheHighestByteFirst(t *testing.T) {
	s := "\x81\x02\x03\x04\x05\x06\x07"
	for _, x := range []struct{ at, width, want int }{
		{0, 1, 0x81}, {0, 2, 0x8102}, {0, 4, 0x81020304}, {0, 6, 0x810203040506},
		{1, 1, 2}, {1, 2, 0x0203}, {3, 4, 0x04050607}, {1, 6, 0x020304050607}, {6, 1, 7},
	} {
		r, n := Num(Read{S: s, At: x.at}, x.width)
		if n != x.want || r != (Read{S: s, At: x.at + x.width}) {
			t.Errorf("%+v: %+v %x", x, r, n)
		}
	}
}

func TestNumOfNoWidth(t *testing.T) {
	s := strings.Repeat("\x01", 80)
	for _, width := range notWidths {
		for _, r := range []Read{{S: s}, {S: s, At: 7}, {S: s, At: 80}, {}} {
			want := Read{S: r.S, At: r.At, Bad: api.ErrArg}
			if got, n := Num(r, width); got != want || n != 0 {
				t.Errorf("Num(%+v, %d) = %+v %d", r, width, got, n)
			}
		}
	}
}

func TestNumCut(t *testing.T) {
	for _, width := range widths {
		for left := range width {
			r := Read{S: strings.Repeat("\x01", 3+left), At: 3}
			want := Read{S: r.S, At: 3, Bad: api.ErrCut}
			if got, n := Num(r, width); got != want || n != 0 {
				t.Errorf("Num(%+v, %d) = %+v %d", r, width, got, n)
			}
		}
	}
}

func TestText(t *testing.T) {
	long := strings.Repeat("y", 255)
	for _, x := range []struct {
		s    string
		at   int
		most int
		want string
		e    api.Errno
	}{
		{"\x00", 0, 0, "", api.OK},
		{"\x03abcde", 0, 3, "abc", api.OK},
		{"zz\x02abcde", 2, 9, "ab", api.OK},
		{"\x02ab", 0, 2, "ab", api.OK},
		{"\xff" + long, 0, 255, long, api.OK},
		{"\xff" + long, 0, math.MaxInt, long, api.OK},
		{"", 0, 9, "", api.ErrCut},
		{"abc", 3, 9, "", api.ErrCut},
		{"", 0, -1, "", api.ErrCut},
		{"\x02a", 0, 2, "", api.ErrCut},
		{"\x01", 0, 1, "", api.ErrCut},
		{"\xff" + long[1:], 0, 255, "", api.ErrCut},
		{"\x03abc", 0, 2, "", api.ErrLong},
		{"\x03a", 0, 2, "", api.ErrLong},
		{"\x03", 0, 2, "", api.ErrLong},
		{"\xff" + long, 0, 254, "", api.ErrLong},
		{"\x00", 0, -1, "", api.ErrLong},
		{"\x00", 0, math.MinInt, "", api.ErrLong},
	} {
		want := Read{S: x.s, At: x.at, Bad: x.e}
		if x.e == api.OK {
			want.At += 1 + len(x.want)
		}
		r, s := Text(Read{S: x.s, At: x.at}, x.most)
		if r != want || s != x.want {
			t.Errorf("%+v: %+v %q", x, r, s)
		}
	}
}

func TestRest(t *testing.T) {
	for at, want := range []string{"abc", "bc", "c", ""} {
		r, s := Rest(Read{S: "abc", At: at})
		if s != want || r != (Read{S: "abc", At: 3}) {
			t.Errorf("at %d: %+v %q", at, r, s)
		}
	}
}

func TestBadReadsNothing(t *testing.T) {
	for _, bad := range []api.Errno{api.ErrNil, api.ErrArg, api.ErrCut, api.ErrForm, api.ErrLong, api.ErrLine, 77, -1} {
		for at := range 5 {
			r := Read{S: "\x01\x01\x01\x01", At: at, Bad: bad}
			for _, x := range reads {
				if got, s := x.call(r); got != r || s != "" {
					t.Errorf("%s of %+v = %+v %q", x.name, r, got, s)
				}
			}
		}
	}
}

// P1.3

func TestLeftAndDone(t *testing.T) {
	for _, x := range []struct {
		r    Read
		left int
		done api.Errno
	}{
		{Read{}, 0, api.OK},
		{Read{S: "abc"}, 3, api.ErrForm},
		{Read{S: "abc", At: 2}, 1, api.ErrForm},
		{Read{S: "abc", At: 3}, 0, api.OK},
		{Read{S: "abc", At: 1, Bad: api.ErrCut}, 0, api.ErrCut},
		{Read{S: "abc", At: 3, Bad: api.ErrLong}, 0, api.ErrLong},
		{Read{Bad: -4}, 0, -4},
	} {
		if n, e := Left(x.r), Done(x.r); n != x.left || e != x.done {
			t.Errorf("%+v: left %d, done %d", x.r, n, int(e))
		}
	}
}

// P1.4

func TestLay(t *testing.T) {
	for _, x := range []struct {
		n, width int
		want     string
	}{
		{0, 1, "\x00"}, {7, 1, "\x07"}, {255, 1, "\xff"},
		{0, 2, "\x00\x00"}, {258, 2, "\x01\x02"}, {65535, 2, "\xff\xff"},
		{0x01020304, 4, "\x01\x02\x03\x04"}, {1<<32 - 1, 4, "\xff\xff\xff\xff"},
		{0x010203040506, 6, "\x01\x02\x03\x04\x05\x06"}, {1<<48 - 1, 6, "\xff\xff\xff\xff\xff\xff"},
	} {
		b, e := Lay(x.n, x.width)
		if string(b) != x.want || e != api.OK {
			t.Errorf("%+v: %x %d", x, b, int(e))
		}
	}
}

func TestLayOutOfRange(t *testing.T) {
	for _, width := range widths {
		for _, n := range []int{-1, -256, math.MinInt, 1 << (8 * width), 3 << (8 * width), 1 << 62, math.MaxInt} {
			if b, e := Lay(n, width); b != nil || e != api.ErrRange {
				t.Errorf("Lay(%d, %d) = %x %d", n, width, b, int(e))
			}
		}
	}
}

func TestLayOfNoWidth(t *testing.T) {
	for _, width := range notWidths {
		for _, n := range []int{0, 1, -1, math.MinInt, math.MaxInt} {
			if b, e := Lay(n, width); b != nil || e != api.ErrArg {
				t.Errorf("Lay(%d, %d) = %x %d", n, width, b, int(e))
			}
		}
	}
}

func TestSay(t *testing.T) {
	long := strings.Repeat("y", 300)
	for _, x := range []struct {
		s    string
		most int
		want string
		e    api.Errno
	}{
		{"hi", 9, "\x02hi", api.OK},
		{"hi", 2, "\x02hi", api.OK},
		{"\x00\xff", 2, "\x02\x00\xff", api.OK},
		{"", 0, "\x00", api.OK},
		{long[:255], 255, "\xff" + long[:255], api.OK},
		{long[:255], math.MaxInt, "\xff" + long[:255], api.OK},
		{"hi", 1, "", api.ErrLong},
		{"h", 0, "", api.ErrLong},
		{"", -1, "", api.ErrLong},
		{"", math.MinInt, "", api.ErrLong},
		{long[:255], 254, "", api.ErrLong},
		{long[:256], 300, "", api.ErrLong},
		{long, math.MaxInt, "", api.ErrLong},
	} {
		b, e := Say(x.s, x.most)
		if string(b) != x.want || e != x.e || (e != api.OK && b != nil) {
			t.Errorf("%+v: %x %d", x, b, int(e))
		}
	}
}

// P1.5

func TestPack(t *testing.T) {
	for _, x := range []struct {
		l    []string
		most int
		want string
		e    api.Errno
	}{
		{nil, 0, "\x00", api.OK},
		{[]string{}, -1, "\x00", api.OK},
		{[]string{"", "abc", "x"}, 3, "\x03\x00\x03abc\x01x", api.OK},
		{make([]string, 255), 0, "\xff" + strings.Repeat("\x00", 255), api.OK},
		{[]string{"abcd"}, 3, "", api.ErrLong},
		{[]string{"a", "b", "abcd"}, 3, "", api.ErrLong},
		{[]string{""}, -1, "", api.ErrLong},
		{[]string{strings.Repeat("y", 256)}, 999, "", api.ErrLong},
		{make([]string, 256), 9, "", api.ErrLong},
		{make([]string, 512), 9, "", api.ErrLong},
	} {
		b, e := Pack(x.l, x.most)
		if string(b) != x.want || e != x.e || (e != api.OK && b != nil) {
			t.Errorf("%d texts %q, most %d: %x %d", len(x.l), x.l, x.most, b, int(e))
		}
	}
}

func TestUnpack(t *testing.T) {
	for _, x := range []struct {
		s    string
		most int
		want []string
		e    api.Errno
	}{
		{"\x00", 0, nil, api.OK},
		{"\x00", -1, nil, api.OK},
		{"\x01\x00", 0, []string{""}, api.OK},
		{"\x03\x00\x03abc\x01x", 3, []string{"", "abc", "x"}, api.OK},
		{"\xff" + strings.Repeat("\x00", 255), 0, make([]string, 255), api.OK},
		{"", 3, nil, api.ErrCut},
		{"\x01", 3, nil, api.ErrCut},
		{"\x02\x01a", 3, nil, api.ErrCut},
		{"\x02\x01a\x02b", 3, nil, api.ErrCut},
		{"\x02\x01a\x02b", 1, nil, api.ErrLong},
		{"\x01\x04abcd", 3, nil, api.ErrLong},
		{"\x01\x00", -1, nil, api.ErrLong},
		{"\x02\x04abcd", 3, nil, api.ErrLong},
		{"\x00x", 3, nil, api.ErrForm},
		{"\x01\x01ab", 3, nil, api.ErrForm},
	} {
		l, e := Unpack(x.s, x.most)
		if !slices.Equal(l, x.want) || e != x.e || (e != api.OK && l != nil) {
			t.Errorf("%q, most %d: %q %d", x.s, x.most, l, int(e))
		}
	}
}

func TestPackLeavesItsListAlone(t *testing.T) {
	l := []string{"a", "bc"}
	b, _ := Pack(l, 9)
	clear(b[:cap(b)])
	if !slices.Equal(l, []string{"a", "bc"}) {
		t.Errorf("%q", l)
	}
	if c, _ := Pack(l, 9); string(c) != "\x02\x01a\x02bc" {
		t.Errorf("%x", c)
	}
}

// P1.6

func TestLaidIsRead(t *testing.T) {
	for _, width := range widths {
		for bit := range 8 * width {
			for _, n := range []int{0, 1 << bit, 1<<bit - 1, 1<<(8*width) - 1 - 1<<bit} {
				b, e := Lay(n, width)
				r, got := Num(Open(string(b)), width)
				if e != api.OK || got != n || Done(r) != api.OK {
					t.Errorf("Lay(%d, %d) = %x %d, read as %d %+v", n, width, b, int(e), got, r)
				}
			}
		}
	}
}

func TestReadIsLaidAsItWas(t *testing.T) {
	for _, width := range widths {
		for at := range width {
			for v := range 256 {
				s := []byte("\x12\x34\x56\x78\x9a\xbc")[:width]
				s[at] = byte(v)
				r, n := Num(Open(string(s)), width)
				b, e := Lay(n, width)
				if r.Bad != api.OK || e != api.OK || string(b) != string(s) {
					t.Errorf("%x read as %d, laid as %x %d", s, n, b, int(e))
				}
			}
		}
	}
}

func TestSaidIsRead(t *testing.T) {
	for size := range 256 {
		s := strings.Repeat("\xfe", size)
		b, e := Say(s, size)
		r, got := Text(Open(string(b)), size)
		if e != api.OK || got != s || Done(r) != api.OK {
			t.Errorf("%d bytes: %x %d, read as %q", size, b, int(e), got)
		}
	}
}

func TestUnpackedIsPackedAsItWas(t *testing.T) {
	const letters = "\x00\x01\x02\x03"
	good := 0
	for n := range 1 << 14 {
		s := ""
		for i := range 7 {
			s += string(letters[n>>(2*i)&3])
		}
		l, e := Unpack(s, 2)
		if e != api.OK {
			continue
		}
		good++
		if b, e := Pack(l, 2); string(b) != s || e != api.OK {
			t.Errorf("%x unpacked as %q, packed as %x %d", s, l, b, int(e))
		}
	}
	if good == 0 {
		t.Error("nothing was unpacked")
	}
}

func TestFieldsAreReadInARow(t *testing.T) {
	r := Open("\x01\x00\x02\x02hi\x00\x00\x00\x00\x01\x00end")
	r, one := Num(r, 1)
	r, two := Num(r, 2)
	r, hi := Text(r, 9)
	r, six := Num(r, 6)
	r, end := Rest(r)
	if one != 1 || two != 2 || hi != "hi" || six != 256 || end != "end" || Done(r) != api.OK {
		t.Error(one, two, hi, six, end, r)
	}
}

func TestFirstErrorStays(t *testing.T) {
	for _, x := range []struct {
		name string
		fail func(Read) Read
		want api.Errno
	}{
		{"cut", func(r Read) Read { r, _ = Num(r, 6); return r }, api.ErrCut},
		{"no width", func(r Read) Read { r, _ = Num(r, 5); return r }, api.ErrArg},
		{"long", func(r Read) Read { r, _ = Text(r, 0); return r }, api.ErrLong},
		{"cut text", func(r Read) Read { r, _ = Text(r, 9); return r }, api.ErrCut},
	} {
		first := x.fail(Read{S: "z\x03a", At: 1})
		if first != (Read{S: "z\x03a", At: 1, Bad: x.want}) {
			t.Errorf("%s: %+v", x.name, first)
		}
		for _, y := range reads {
			if got, s := y.call(first); got != first || s != "" {
				t.Errorf("%s, then %s: %+v %q", x.name, y.name, got, s)
			}
		}
		if Left(first) != 0 || Done(first) != x.want {
			t.Errorf("%s: left %d, done %d", x.name, Left(first), int(Done(first)))
		}
	}
}
