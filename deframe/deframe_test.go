package deframe

import (
	"fmt"
	"math"
	"slices"
	"strings"
	"testing"
	"unsafe"

	"callboy/api"
	"callboy/stanza"
)

const (
	mostN   = 1<<48 - 1
	longest = "aaaaaaaaaaaaaaaa@bbbbbbbbbbbbbbbb" // 33 bytes
)

// pieces are bytes of which lengths and texts are made, from both ends, and about 128.
var pieces = []string{"\x00", "\x01", "\x02", "a", "\x80", "\x81", "\xff"}

// stanzas are of all kinds, each with as little, and as much, as it may have.
var stanzas = []stanza.Stanza{
	{Kind: stanza.Login, User: "a@b"},
	{Kind: stanza.Login, User: longest, Res: "desk/@ \u20acab"},
	{Kind: stanza.Bye},
	{Kind: stanza.Avail},
	{Kind: stanza.Avail, Show: 63, Prio: -128},
	{Kind: stanza.Off},
	{Kind: stanza.Direct, User: "a@b", Prio: 127},
	{Kind: stanza.Undirect, User: "a@b"},
	{Kind: stanza.Sub, User: longest},
	{Kind: stanza.Allow, User: "a@b"},
	{Kind: stanza.Deny, User: "a@b"},
	{Kind: stanza.Unsub, User: "a@b"},
	{Kind: stanza.Probe, User: "a@b"},
	{Kind: stanza.Get},
	{Kind: stanza.Get, N: mostN},
	{Kind: stanza.Set, User: "a@b"},
	{Kind: stanza.Set, User: longest, Name: strings.Repeat("n", 24)},
	{Kind: stanza.Del, User: "a@b"},
	{Kind: stanza.Ping, N: 1},
	{Kind: stanza.Ok, Code: 255, N: 256},
	{Kind: stanza.Err, Code: 1, Show: 2, N: 3},
	{Kind: stanza.Pres, User: "a@b", Res: "r", Show: 1, Prio: -1, N: 7},
	{Kind: stanza.Gone, User: "a@b", Res: "r", N: 8},
	{Kind: stanza.Snap, N: 9},
	{Kind: stanza.Done},
	{Kind: stanza.Push, User: longest, Name: "\u00e9", Show: 5, N: mostN},
	{Kind: stanza.Drop, User: "a@b", N: 65535},
	{Kind: stanza.Note, User: "a@b", Code: 128},
	{Kind: stanza.Pong, N: 1 << 40},
}

// unsayable are stanzas that may not be said, and why.
var unsayable = []Item{
	{stanza.Stanza{}, api.ErrKind},
	{stanza.Stanza{Kind: 16}, api.ErrKind},
	{stanza.Stanza{Kind: 31, N: -1}, api.ErrKind},
	{stanza.Stanza{Kind: 42}, api.ErrKind},
	{stanza.Stanza{Kind: 255}, api.ErrKind},
	{stanza.Stanza{Kind: stanza.Bye, N: 1}, api.ErrForm},
	{stanza.Stanza{Kind: stanza.Sub, User: "a@b", Name: "n"}, api.ErrForm},
	{stanza.Stanza{Kind: stanza.Avail, Show: 64}, api.ErrRange},
	{stanza.Stanza{Kind: stanza.Ping, N: mostN + 1}, api.ErrRange},
	{stanza.Stanza{Kind: stanza.Ping, N: math.MinInt}, api.ErrRange},
	{stanza.Stanza{Kind: stanza.Set, User: "a@b", Name: strings.Repeat("n", 25)}, api.ErrLong},
	{stanza.Stanza{Kind: stanza.Login, User: "a@b", Res: strings.Repeat("r", 13)}, api.ErrLong},
	{stanza.Stanza{Kind: stanza.Login, User: "a@b", Res: strings.Repeat("r", 1000)}, api.ErrLong},
	{stanza.Stanza{Kind: stanza.Sub}, api.ErrText},
	{stanza.Stanza{Kind: stanza.Sub, User: "A@b"}, api.ErrText},
	{stanza.Stanza{Kind: stanza.Login, User: "a@b", Res: "\n"}, api.ErrText},
	{stanza.Stanza{Kind: stanza.Set, User: "a@b", Name: "\xff"}, api.ErrText},
}

// unread are texts that are no stanza, and why.
var unread = []struct {
	s    string
	want api.Errno
}{
	{"\x00", api.ErrKind},
	{"\x10", api.ErrKind},
	{"\x2a", api.ErrKind},
	{"hello", api.ErrKind},
	{strings.Repeat("\xff", 128), api.ErrKind},
	{"\x01", api.ErrCut},
	{"\x07\x03a@", api.ErrCut},
	{"\x0c\x00\x00\x00\x00\x00", api.ErrCut},
	{"\x02\x02", api.ErrForm},
	{"\x07\x03a@ba", api.ErrForm},
	{"\x02" + strings.Repeat("a", 127), api.ErrForm},
	{"\x07\x22" + longest + "b", api.ErrLong},
	{"\x01\x03a@b\x0d" + strings.Repeat("r", 13), api.ErrLong},
	{"\x0d\x03a@b\x19" + strings.Repeat("n", 25), api.ErrLong},
	{"\x03\x40\x80", api.ErrRange},
	{"\x07\x00", api.ErrText},
	{"\x07\x03A@b", api.ErrText},
	{"\x01\x03a@b\x01\n", api.ErrText},
	{"\x0d\x03a@b\x01\xff", api.ErrText},
}

// opens are states that take bytes.
var opens = []State{
	{},
	{Seen: 1},
	{Seen: 1 << 40},
	{Seen: math.MaxInt},
	{Buf: "\x00"},
	{Buf: "\x01"},
	{Buf: "\xff", Seen: 3},
	{Buf: "\x00\x01"},
	{Buf: "\x00\x02a"},
	{Buf: "\x00\x04\x00\x01a"},
	{Buf: "\x00\x80", Seen: 1},
	{Buf: "\x00\x80" + strings.Repeat("\x00", 127), Seen: math.MaxInt - 1},
}

// shuts are states that take nothing: something went wrong, or they may not be.
var shuts = []struct {
	st   State
	want api.Errno
}{
	{State{Bad: api.ErrForm}, api.OK},
	{State{Bad: api.ErrLong, Seen: 5}, api.OK},
	{State{Bad: api.ErrCut}, api.OK},
	{State{Bad: api.ErrLine, Seen: math.MaxInt}, api.OK},
	{State{Bad: -1}, api.OK},
	{State{Bad: math.MinInt}, api.OK},
	{State{Bad: math.MaxInt}, api.OK},
	{State{Bad: api.ErrForm, Buf: "\x00"}, api.ErrForm},
	{State{Bad: api.ErrLong, Buf: "\x00\x05abc", Seen: 2}, api.ErrForm},
	{State{Bad: api.ErrCut, Buf: "\x00"}, api.ErrForm},
	{State{Bad: -1, Buf: "\x00"}, api.ErrForm},
	{State{Buf: "\x00\x01a"}, api.ErrLong},
	{State{Buf: "\x00\x01a\x00", Seen: 1}, api.ErrLong},
	{State{Buf: "\x00\x01a\x00\x01b"}, api.ErrLong},
	{State{Buf: "\x00\x80" + strings.Repeat("a", 128)}, api.ErrLong},
	{State{Buf: "\x00\x80" + strings.Repeat("a", 129)}, api.ErrLong},
	{State{Buf: "\x00\x00"}, api.ErrLong},
	{State{Buf: "\x00\x00\x00\x01a"}, api.ErrLong},
	{State{Buf: "\x00\x81"}, api.ErrLong},
	{State{Buf: "\x00\x81" + strings.Repeat("a", 128)}, api.ErrLong},
	{State{Buf: "\x01\x00"}, api.ErrLong},
	{State{Buf: "\x01\x01"}, api.ErrLong},
	{State{Buf: "\x80\x00a"}, api.ErrLong},
	{State{Buf: "\xff\xff"}, api.ErrLong},
	{State{Seen: -1}, api.ErrRange},
	{State{Seen: -2}, api.ErrRange},
	{State{Seen: math.MinInt}, api.ErrRange},
	{State{Seen: math.MinInt + 1}, api.ErrRange},
	{State{Buf: "\x00", Seen: -1}, api.ErrRange},
	{State{Buf: "\x00\x02a", Seen: math.MinInt}, api.ErrRange},
	{State{Bad: api.ErrForm, Seen: -1}, api.ErrRange},
	{State{Bad: -1, Seen: math.MinInt}, api.ErrRange},
	// Of two and three reasons the first one is told.
	{State{Bad: api.ErrForm, Buf: "\x00\x01a"}, api.ErrForm},
	{State{Bad: api.ErrLong, Buf: "\x00\x00"}, api.ErrForm},
	{State{Bad: api.ErrRange, Buf: "\x00\x81"}, api.ErrForm},
	{State{Bad: api.ErrForm, Buf: "\x00", Seen: -1}, api.ErrForm},
	{State{Bad: api.ErrForm, Buf: "\xff\xff", Seen: math.MinInt}, api.ErrForm},
	{State{Buf: "\x00\x01a", Seen: -1}, api.ErrLong},
	{State{Buf: "\x00\x00", Seen: math.MinInt}, api.ErrLong},
	{State{Buf: "\x00\x81", Seen: -1}, api.ErrLong},
}

// streams are bytes as they come, of whole frames and others, and with a wrong length among them.
func streams() []string {
	long := strings.Repeat("a", 128)
	l := []string{
		"", "\x00", "\x01", "\xff", "\x00\x01", "\x00\x05abc", "\x00\x01a", "\x00\x01a\x00", "\x00\x01a\x00\x02", "\x00\x01a\x00\x02b", "\x00\x01a\x00\x01b\x00\x01c",
		"\x00\x01a\x00\x00", "\x00\x01a\x00\x00\x00\x01b", "\x00\x01a\x00\x81", "\x00\x01a\x00\x81" + long + "b\x00\x01c", "\x00\x01a\xff\xff", "\x00\x01a\xff\xff\x00\x01b",
		"\x00\x00", "\x00\x81", "\x01\x00", "\xff\xff", "\x00\x00\x00\x00", "\x00\x04\x00\x00\x00\x81\x00\x01",
		"\x00\x80" + long, "\x00\x80" + long + "\x00\x7f" + long[1:] + "\x00\x80" + long[1:],
		byes(40),
	}
	all := ""
	for _, x := range unread {
		all += frameOf("\x02") + frameOf(x.s)
	}
	told := framesOf(stanzas)
	return append(l, all+frameOf("\x02"), told, told+"\x00\x00", told+"\x00\x81a", told[:len(told)-1], told+told[:1])
}

// byes are so many frames of Bye.
func byes(n int) string { return strings.Repeat("\x00\x01\x02", n) }

// frameOf is a text's frame, in the test's own words.
func frameOf(s string) string { return "\x00" + string([]byte{byte(len(s))}) + s }

// framesOf are the frames of stanzas that may all be said.
func framesOf(l []stanza.Stanza) string {
	b := ""
	for _, s := range l {
		text, _ := stanza.Put(s)
		b += frameOf(text)
	}
	return b
}

// lengthOf is the length that bytes begin with.
func lengthOf(b string) int { return 256*int(b[0]) + int(b[1]) }

// show is a state as a text.
func show(st State) string {
	return fmt.Sprintf("{%.40q, of %d, %d, %d}", st.Buf, len(st.Buf), int(st.Bad), st.Seen)
}

// refused tells what Check should, in the test's own words.
func refused(st State) api.Errno {
	if st.Buf != "" && st.Bad != 0 {
		return api.ErrForm
	}
	if len(st.Buf) > 1 {
		if n := lengthOf(st.Buf); n == 0 || n > 128 || len(st.Buf) >= n+2 {
			return api.ErrLong
		}
	}
	if st.Seen != max(st.Seen, 0) {
		return api.ErrRange
	}
	return api.OK
}

// lacking tells what Need should, in the test's own words.
func lacking(st State) int {
	switch {
	case st.Bad != 0, refused(st) != 0:
		return 0
	case st.Buf == "":
		return 2
	case len(st.Buf) == 1:
		return 1
	}
	return 2 + int(st.Buf[1]) - len(st.Buf)
}

// above tells one more, and of the greatest int the least.
func above(n int) int {
	if n == math.MaxInt {
		return math.MinInt
	}
	return n + 1
}

// taken tells what Texts should, in the test's own words: byte by byte.
func taken(st State, b string) (State, []string) {
	if st.Bad != 0 || refused(st) != 0 {
		return st, nil
	}
	var l []string
	buf := []byte(st.Buf)
	for at := range len(b) {
		buf = append(buf, b[at])
		if len(buf) < 2 {
			continue
		}
		n := lengthOf(string(buf[:2]))
		if n == 0 {
			return State{Bad: api.ErrForm, Seen: st.Seen}, l
		}
		if n > 128 {
			return State{Bad: api.ErrLong, Seen: st.Seen}, l
		}
		if len(buf) == 2+n {
			l = append(l, string(buf[2:]))
			st.Seen = above(st.Seen)
			buf = nil
		}
	}
	st.Buf = string(buf)
	return st, l
}

// said tells what texts say.
func said(texts []string) []Item {
	var l []Item
	for _, s := range texts {
		x, e := stanza.Read(s)
		l = append(l, Item{x, e})
	}
	return l
}

// looks looks at what Check and Need tell of a state.
func looks(t *testing.T, st State) {
	t.Helper()
	if e, want := Check(st), refused(st); e != want {
		t.Errorf("Check(%s) = %d, want %d", show(st), int(e), int(want))
	}
	if n, want := Need(st), lacking(st); n != want {
		t.Errorf("Need(%s) = %d, want %d", show(st), n, want)
	}
}

// takes looks at what Texts and Feed tell, and at the state that they leave.
func takes(t *testing.T, st State, b string) {
	t.Helper()
	want, texts := taken(st, b)
	if next, l := Texts(st, b); next != want || !slices.Equal(l, texts) {
		t.Errorf("Texts(%s, %.40q, of %d) = %s, %.40q, want %s, %.40q", show(st), b, len(b), show(next), l, show(want), texts)
	}
	if next, l := Feed(st, b); next != want || !slices.Equal(l, said(texts)) {
		t.Errorf("Feed(%s, %.40q, of %d) = %s, %v, want %s, %v", show(st), b, len(b), show(next), l, show(want), said(texts))
	}
	looks(t, want)
}

// fed tells what Feed and Texts make of bytes that come in pieces.
func fed(t *testing.T, st State, parts ...string) (State, []Item) {
	t.Helper()
	other := st
	var l []Item
	var texts []string
	for _, b := range parts {
		var items []Item
		var more []string
		st, items = Feed(st, b)
		other, more = Texts(other, b)
		l = append(l, items...)
		texts = append(texts, more...)
	}
	if st != other || !slices.Equal(l, said(texts)) {
		t.Errorf("of %.40q: Feed %s, %v, Texts %s, %.40q", parts, show(st), l, show(other), texts)
	}
	return st, l
}

// comes looks whether it is nothing in which pieces bytes come.
func comes(t *testing.T, st State, parts ...string) {
	t.Helper()
	b := strings.Join(parts, "")
	want, texts := taken(st, b)
	if next, l := fed(t, st, parts...); next != want || !slices.Equal(l, said(texts)) {
		t.Errorf("Feed(%s, %.40q) = %s, %v, want %s, %v", show(st), parts, show(next), l, show(want), said(texts))
	}
}

// ones are bytes one by one.
func ones(b string) []string {
	var l []string
	for at := range len(b) {
		l = append(l, b[at:at+1])
	}
	return l
}

// P12.1

func TestCheck(t *testing.T) {
	for _, st := range opens {
		if e := Check(st); e != api.OK {
			t.Errorf("Check(%s) = %d", show(st), int(e))
		}
	}
	for _, x := range shuts {
		if e := Check(x.st); e != x.want {
			t.Errorf("Check(%s) = %d, want %d", show(x.st), int(e), int(x.want))
		}
	}
}

func TestCheckOfAllLengths(t *testing.T) {
	for n := range 1 << 16 {
		b := string([]byte{byte(n / 256), byte(n % 256)})
		for _, more := range []string{"", "a", strings.Repeat("a", 127), strings.Repeat("\x00", 128)} {
			looks(t, State{Buf: b + more})
		}
		looks(t, State{Buf: b, Seen: -1})
		looks(t, State{Buf: b, Bad: api.ErrCut})
	}
	long := strings.Repeat("\x00\x01a", 60)
	for n := range 140 {
		for whole := range 140 {
			looks(t, State{Buf: "\x00" + string([]byte{byte(n)}) + long[:whole], Seen: n})
		}
	}
}

func TestCheckOfAllErrors(t *testing.T) {
	for e := api.Errno(-70); e < 70; e++ {
		for _, b := range []string{"", "\x00", "\x00\x01", "\x00\x01a", "\x00\x00", "\xff\xff"} {
			for _, n := range []int{math.MinInt, -1, 0, 1, math.MaxInt} {
				st := State{Buf: b, Bad: e, Seen: n}
				looks(t, st)
				takes(t, st, "\x00\x01\x02")
			}
		}
	}
}

// P12.2

func TestTexts(t *testing.T) {
	for _, x := range []struct {
		st    State
		b     string
		want  State
		texts []string
	}{
		{State{}, "", State{}, nil},
		{State{}, "\x00", State{Buf: "\x00"}, nil},
		{State{}, "\x00\x01", State{Buf: "\x00\x01"}, nil},
		{State{}, "\x00\x02a", State{Buf: "\x00\x02a"}, nil},
		{State{}, "\x00\x02ab", State{Seen: 1}, []string{"ab"}},
		{State{}, "\x00\x02ab\x00", State{Buf: "\x00", Seen: 1}, []string{"ab"}},
		{State{}, "\x00\x02ab\x00\x01", State{Buf: "\x00\x01", Seen: 1}, []string{"ab"}},
		{State{}, "\x00\x02ab\x00\x01c", State{Seen: 2}, []string{"ab", "c"}},
		{State{Buf: "\x00", Seen: 7}, "\x01a\x00\x02b", State{Buf: "\x00\x02b", Seen: 8}, []string{"a"}},
		{State{Buf: "\x00\x02b", Seen: 8}, "c", State{Seen: 9}, []string{"bc"}},
		{State{Buf: "\x00\x02b", Seen: 8}, "", State{Buf: "\x00\x02b", Seen: 8}, nil},
		{State{}, "\x00\x00", State{Bad: api.ErrForm}, nil},
		{State{}, "\x00\x81", State{Bad: api.ErrLong}, nil},
		{State{}, "\xff\xff", State{Bad: api.ErrLong}, nil},
		{State{Buf: "\x00"}, "\x00", State{Bad: api.ErrForm}, nil},
		{State{Buf: "\x01"}, "\x00", State{Bad: api.ErrLong}, nil},
		{State{Buf: "\x00\x01", Seen: 2}, "a\x00\x00", State{Bad: api.ErrForm, Seen: 3}, []string{"a"}},
		{State{}, "\x00\x01a\x00\x00", State{Bad: api.ErrForm, Seen: 1}, []string{"a"}},
		{State{}, "\x00\x01a\x00\x81", State{Bad: api.ErrLong, Seen: 1}, []string{"a"}},
		{State{}, "\x00\x01a\xff\xff", State{Bad: api.ErrLong, Seen: 1}, []string{"a"}},
		{State{}, "\x00\x01a\x00\x00\x00\x01b", State{Bad: api.ErrForm, Seen: 1}, []string{"a"}},
	} {
		if st, l := Texts(x.st, x.b); st != x.want || !slices.Equal(l, x.texts) {
			t.Errorf("Texts(%s, %q) = %s, %q", show(x.st), x.b, show(st), l)
		}
		takes(t, x.st, x.b)
	}
}

func TestFeed(t *testing.T) {
	sub := stanza.Stanza{Kind: stanza.Sub, User: "a@b"}
	st, l := Feed(State{}, "\x00\x05\x07\x03a@b\x00\x01\x00\x00\x01\x02\x00")
	if st != (State{Buf: "\x00", Seen: 3}) || !slices.Equal(l, []Item{{S: sub}, {E: api.ErrKind}, {S: stanza.Stanza{Kind: stanza.Bye}}}) {
		t.Errorf("Feed = %s, %v", show(st), l)
	}
	st, l = Feed(State{Seen: 4}, "\x00\x05\x07\x03a@b\x00\x00")
	if st != (State{Bad: api.ErrForm, Seen: 5}) || !slices.Equal(l, []Item{{S: sub}}) {
		t.Errorf("Feed = %s, %v", show(st), l)
	}
	if st, l = Feed(State{}, ""); st != (State{}) || len(l) != 0 {
		t.Errorf("Feed of no bytes = %s, %v", show(st), l)
	}
}

func TestFeedOfWhatIsNoStanza(t *testing.T) {
	bye := Item{S: stanza.Stanza{Kind: stanza.Bye}}
	for _, x := range unread {
		wrong := Item{E: x.want}
		st, l := Feed(State{}, frameOf(x.s))
		if st != (State{Seen: 1}) || !slices.Equal(l, []Item{wrong}) {
			t.Errorf("Feed of %.40q = %s, %v", x.s, show(st), l)
		}
		st, l = Feed(State{}, "\x00\x01\x02"+frameOf(x.s)+"\x00\x01\x02"+frameOf(x.s)+"\x00\x01\x02\x00")
		if st != (State{Buf: "\x00", Seen: 5}) || !slices.Equal(l, []Item{bye, wrong, bye, wrong, bye}) {
			t.Errorf("Feed of %.40q between others = %s, %v", x.s, show(st), l)
		}
	}
}

func TestFeedOfAllStreams(t *testing.T) {
	for _, b := range streams() {
		for _, st := range opens {
			takes(t, st, b)
		}
		for _, x := range shuts {
			takes(t, x.st, b)
		}
	}
}

func TestShutStatesStay(t *testing.T) {
	for _, x := range shuts {
		for _, b := range []string{"", "a", "\x00", "\x01a", "\x00\x01\x02", "\x00\x01\x02\x00", "\x00\x00", "\xff\xff", byes(3)} {
			if st, l := Texts(x.st, b); st != x.st || len(l) != 0 {
				t.Errorf("Texts(%s, %q) = %s, %q", show(x.st), b, show(st), l)
			}
			if st, l := Feed(x.st, b); st != x.st || len(l) != 0 {
				t.Errorf("Feed(%s, %q) = %s, %v", show(x.st), b, show(st), l)
			}
		}
	}
}

func TestTextsOfAllLengths(t *testing.T) {
	full := strings.Repeat("\x00\x01a", 43)
	for n := range 1 << 16 {
		first, second := string([]byte{byte(n / 256)}), string([]byte{byte(n % 256)})
		takes(t, State{}, first+second)
		takes(t, State{Buf: first}, second)
		if n%256 < 140 {
			takes(t, State{}, first+second+full[:128])
			takes(t, State{Buf: first, Seen: n}, second+full[:n%256%129])
		}
	}
}

func TestTextsOfSmallBytes(t *testing.T) {
	var lay func(st State, b string, left int)
	lay = func(st State, b string, left int) {
		takes(t, st, b)
		if left == 0 {
			return
		}
		for _, x := range pieces {
			lay(st, b+x, left-1)
		}
	}
	lay(State{}, "", 5)
	for _, b := range []string{"\x00", "\x01", "\x00\x01", "\x00\x02", "\x00\x02a", "\x00\x03\x00\x00", "\xff"} {
		lay(State{Buf: b, Seen: 2}, "", 3)
	}
}

func TestSeenGoesRound(t *testing.T) {
	for _, x := range []struct {
		seen, n, want int
	}{
		{math.MaxInt - 1, 1, math.MaxInt}, {math.MaxInt - 1, 2, math.MinInt}, {math.MaxInt - 1, 3, math.MinInt + 1}, {math.MaxInt, 0, math.MaxInt},
		{math.MaxInt, 1, math.MinInt}, {math.MaxInt, 5, math.MinInt + 4},
	} {
		st, l := Feed(State{Seen: x.seen}, byes(x.n)+"\x00")
		if st != (State{Buf: "\x00", Seen: x.want}) || len(l) != x.n {
			t.Errorf("Feed of %d at %d = %s, %d", x.n, x.seen, show(st), len(l))
		}
		st, texts := Texts(State{Seen: x.seen}, byes(x.n)+"\x00\x00")
		if st != (State{Bad: api.ErrForm, Seen: x.want}) || len(texts) != x.n {
			t.Errorf("Texts of %d at %d = %s, %d", x.n, x.seen, show(st), len(texts))
		}
	}
	// What went round takes nothing more.
	st, _ := Texts(State{Seen: math.MaxInt}, "\x00\x01\x02\x00\x05ab")
	if e := Check(st); e != api.ErrRange || Need(st) != 0 {
		t.Errorf("Check(%s) = %d, Need = %d", show(st), int(e), Need(st))
	}
	if next, l := Texts(st, "cde"); next != st || len(l) != 0 {
		t.Errorf("Texts(%s) = %s, %q", show(st), show(next), l)
	}
}

func TestTextsOfMany(t *testing.T) {
	n := 200000
	st, l := Texts(State{}, strings.Repeat("\x00\x02hi", n)+"\x00\x02h")
	if st != (State{Buf: "\x00\x02h", Seen: n}) || !slices.Equal(l, slices.Repeat([]string{"hi"}, n)) {
		t.Errorf("Texts = %s, %d", show(st), len(l))
	}
}

// P12.3

func TestNeed(t *testing.T) {
	for b, want := range map[string]int{
		"": 2, "\x00": 1, "\x01": 1, "\xff": 1, "\x00\x01": 1, "\x00\x02": 2, "\x00\x02a": 1, "\x00\x05abc": 2, "\x00\x80": 128, "\x00\x80a": 127,
		"\x00\x80" + strings.Repeat("a", 126): 2, "\x00\x80" + strings.Repeat("a", 127): 1,
		"\x00\x01a": 0, "\x00\x01ab": 0, "\x00\x00": 0, "\x00\x00a": 0, "\x00\x81": 0, "\x01\x00": 0, "\x01\x05": 0, "\xff\xff": 0,
	} {
		if n := Need(State{Buf: b}); n != want {
			t.Errorf("Need of %.40q = %d, want %d", b, n, want)
		}
		if n := Need(State{Buf: b, Seen: math.MaxInt}); n != want {
			t.Errorf("Need of %.40q, at the most = %d, want %d", b, n, want)
		}
		for _, st := range []State{{Buf: b, Seen: -1}, {Buf: b, Seen: math.MinInt}, {Buf: b, Bad: api.ErrForm}, {Buf: b, Bad: -1}} {
			if n := Need(st); n != 0 {
				t.Errorf("Need(%s) = %d", show(st), n)
			}
		}
	}
	for _, x := range shuts {
		if n := Need(x.st); n != 0 {
			t.Errorf("Need(%s) = %d", show(x.st), n)
		}
	}
}

// isKnown tells whether Texts knows, behind so many bytes more, of a frame that is whole, or an error.
func isKnown(st State, b string) bool {
	next, l := Texts(st, b)
	return len(l) > 0 || next.Bad != api.OK
}

func TestNeedIsTheLeast(t *testing.T) {
	for size := range 129 {
		buf := "\x00" + string([]byte{byte(size)}) + strings.Repeat("a", 128)
		for at := range 2 + size {
			st := State{Buf: buf[:at]}
			if size == 0 && at == 2 {
				continue
			}
			n := Need(st)
			for _, x := range pieces {
				if isKnown(st, strings.Repeat(x, n-1)) {
					t.Errorf("Need(%s) = %d, but fewer do", show(st), n)
				}
			}
			if !isKnown(st, strings.Repeat("\x00", n)) {
				t.Errorf("Need(%s) = %d, but more are needed", show(st), n)
			}
		}
	}
}

func TestNeedGoesDown(t *testing.T) {
	st := State{}
	for _, x := range []struct {
		b    string
		want int
	}{{"\x00", 1}, {"\x05", 5}, {"a", 4}, {"bc", 2}, {"", 2}, {"d", 1}, {"e", 2}, {"\x00\x01", 1}, {"a\x00\x03", 3}, {"abc\x01", 1}, {"\x00", 0}, {"\x00\x02", 0}} {
		st, _ = Texts(st, x.b)
		if n := Need(st); n != x.want {
			t.Errorf("Need(%s) = %d, want %d", show(st), n, x.want)
		}
	}
}

// P12.4

// encodes looks at what Encode tells, and whether the slice stayed as it was.
func encodes(t *testing.T, l []stanza.Stanza, want string, wanted api.Errno) {
	t.Helper()
	given := slices.Clone(l)
	if b, e := Encode(l); b != want || e != wanted {
		t.Errorf("Encode(%v) = %.40q %d, want %.40q %d", l, b, int(e), want, int(wanted))
	}
	if !slices.Equal(l, given) {
		t.Errorf("Encode(%v) left %v", given, l)
	}
}

func TestEncode(t *testing.T) {
	bye, sub := stanza.Stanza{Kind: stanza.Bye}, stanza.Stanza{Kind: stanza.Sub, User: "a@b"}
	encodes(t, nil, "", api.OK)
	encodes(t, []stanza.Stanza{}, "", api.OK)
	encodes(t, []stanza.Stanza{bye}, "\x00\x01\x02", api.OK)
	encodes(t, []stanza.Stanza{sub}, "\x00\x05\x07\x03a@b", api.OK)
	encodes(t, []stanza.Stanza{sub, bye, sub}, "\x00\x05\x07\x03a@b\x00\x01\x02\x00\x05\x07\x03a@b", api.OK)
	encodes(t, []stanza.Stanza{{Kind: stanza.Ping, N: 258}, bye}, "\x00\x07\x0f\x00\x00\x00\x00\x01\x02\x00\x01\x02", api.OK)
	for at, s := range stanzas {
		encodes(t, []stanza.Stanza{s}, framesOf(stanzas[at:at+1]), api.OK)
		encodes(t, stanzas[at:], framesOf(stanzas[at:]), api.OK)
		encodes(t, stanzas[:at], framesOf(stanzas[:at]), api.OK)
	}
}

func TestEncodeOfWhatMayNotBeSaid(t *testing.T) {
	for _, x := range unsayable {
		encodes(t, []stanza.Stanza{x.S}, "", x.E)
		for at := range len(stanzas) + 1 {
			l := slices.Insert(slices.Clone(stanzas), at, x.S)
			encodes(t, l, "", x.E)
			encodes(t, append(l, unsayable[0].S), "", x.E)
			encodes(t, append(l, unsayable[7].S), "", x.E)
		}
		for _, y := range unsayable {
			encodes(t, []stanza.Stanza{x.S, y.S}, "", x.E)
			encodes(t, []stanza.Stanza{stanzas[2], x.S, stanzas[2], y.S, stanzas[2]}, "", x.E)
		}
	}
}

// P12.5

func TestPieces(t *testing.T) {
	for _, b := range streams() {
		comes(t, State{}, b)
		comes(t, State{}, "", b, "")
		comes(t, State{}, ones(b)...)
		for at := range len(b) + 1 {
			comes(t, State{}, b[:at], b[at:])
		}
		for at := range min(len(b), 60) {
			comes(t, State{Seen: at}, b[:at], "", b[at:at+1], b[at+1:])
		}
	}
}

func TestPiecesFromOpenStates(t *testing.T) {
	for _, st := range opens {
		// One that goes round takes no more pieces.
		st.Seen = min(st.Seen, 1<<40)
		for _, b := range streams() {
			comes(t, st, ones(b[:min(len(b), 300)])...)
			for at := range min(len(b), 100) {
				comes(t, st, b[:at], b[at:])
			}
		}
	}
}

func TestWhatIsEncodedIsTold(t *testing.T) {
	b, e := Encode(stanzas)
	if e != api.OK {
		t.Fatalf("Encode: %d", int(e))
	}
	var want []Item
	for _, s := range stanzas {
		want = append(want, Item{S: s})
	}
	all := [][]string{{b}, ones(b)}
	for at := range len(b) + 1 {
		all = append(all, []string{b[:at], b[at:]})
	}
	for _, parts := range all {
		if st, l := fed(t, State{}, parts...); st != (State{Seen: len(stanzas)}) || !slices.Equal(l, want) {
			t.Errorf("Feed in %d pieces = %s, %v", len(parts), show(st), l)
		}
	}
}

// draw goes on to the next number.
func draw(seed *uint64, below int) int {
	*seed = *seed*6364136223846793005 + 1442695040888963407
	return int(*seed >> 33 % uint64(below))
}

// cut tells bytes in pieces.
func cut(seed *uint64, b string) []string {
	var l []string
	for b != "" {
		n := min(draw(seed, 12), len(b))
		l = append(l, b[:n])
		b = b[n:]
	}
	return l
}

// drawn are stanzas.
func drawn(seed *uint64) []stanza.Stanza {
	l := make([]stanza.Stanza, draw(seed, 8))
	for i := range l {
		l[i] = stanzas[draw(seed, len(stanzas))]
		if strings.Contains(stanza.Has(l[i].Kind), "n") {
			l[i].N = draw(seed, 1<<30) << draw(seed, 19)
		}
		if strings.Contains(stanza.Has(l[i].Kind), "p") {
			l[i].Prio = draw(seed, 256) - 128
		}
	}
	return l
}

func TestWalk(t *testing.T) {
	seed := uint64(12)
	for range 4000 {
		l := drawn(&seed)
		b, e := Encode(l)
		st, items := fed(t, State{}, cut(&seed, b)...)
		if e != api.OK || b != framesOf(l) || st != (State{Seen: len(l)}) || len(items) != len(l) {
			t.Fatalf("Encode(%v) = %q %d, Feed = %s, %v", l, b, int(e), show(st), items)
		}
		for i, x := range items {
			if x != (Item{S: l[i]}) {
				t.Errorf("the place %d of %v: %v", i, l, x)
			}
		}
		if b == "" {
			continue
		}
		at := draw(&seed, len(b))
		changed := b[:at] + string([]byte{byte(draw(&seed, 256))}) + b[at+1:]
		takes(t, State{}, changed)
		comes(t, State{}, cut(&seed, changed)...)
		if st := (State{Buf: b[:at]}); refused(st) == api.OK {
			comes(t, st, cut(&seed, changed)...)
		}
	}
}

// What is told is new memory: a text over bytes that change afterwards shows what was not copied.

// over is a text that stands in the bytes.
func over(b []byte) string { return unsafe.String(unsafe.SliceData(b), len(b)) }

func TestWhatIsToldStays(t *testing.T) {
	set := stanza.Stanza{Kind: stanza.Set, User: "a@b", Name: "name"}
	login := stanza.Stanza{Kind: stanza.Login, User: "a@b", Res: "desk"}
	frames := framesOf([]stanza.Stanza{set, login}) + "\x00\x05ab"
	for _, first := range []int{0, 1, 2, 5} {
		buf, b := []byte(frames[:first]), []byte(frames[first:])
		st, l := Feed(State{Buf: over(buf)}, over(b))
		next, texts := Texts(State{Buf: over(buf)}, over(b))
		clear(buf)
		clear(b)
		if want := (State{Buf: "\x00\x05ab", Seen: 2}); st != want || next != want {
			t.Errorf("left %s, %s", show(st), show(next))
		}
		if !slices.Equal(l, []Item{{S: set}, {S: login}}) || len(texts) != 2 || !slices.Equal(said(texts), l) {
			t.Errorf("told %v, %q", l, texts)
		}
	}
	b := []byte("\x00\x05ab")
	st, _ := Texts(State{}, over(b))
	next, _ := Texts(State{Buf: over(b[:3])}, over(b[3:]))
	same, _ := Texts(State{Buf: over(b)}, "")
	clear(b)
	for _, x := range []State{st, next, same} {
		if x.Buf != "\x00\x05ab" {
			t.Errorf("left %s", show(x))
		}
	}
}

func TestWhatIsEncodedStays(t *testing.T) {
	user, res := []byte("a@b"), []byte("desk")
	spare := []stanza.Stanza{{Kind: stanza.Login, User: over(user), Res: over(res)}, stanzas[2], stanzas[3]}
	b, e := Encode(spare[:2])
	if spare[2] != stanzas[3] || spare[1] != stanzas[2] || spare[0] != (stanza.Stanza{Kind: stanza.Login, User: "a@b", Res: "desk"}) {
		t.Errorf("left %v", spare)
	}
	clear(spare)
	clear(user)
	clear(res)
	if b != "\x00\x0a\x01\x03a@b\x04desk\x00\x01\x02" || e != api.OK {
		t.Errorf("Encode = %q %d", b, int(e))
	}
}

func TestAnswersHaveNothingInCommon(t *testing.T) {
	b := framesOf(stanzas)
	_, l := Feed(State{}, b)
	_, other := Feed(State{}, b)
	_, texts := Texts(State{}, b)
	_, others := Texts(State{}, b)
	clear(l[:cap(l)])
	clear(texts[:cap(texts)])
	for i, s := range stanzas {
		text, _ := stanza.Put(s)
		if other[i] != (Item{S: s}) || others[i] != text {
			t.Errorf("the place %d: %v, %q", i, other[i], others[i])
		}
	}
}

func TestExample(t *testing.T) {
	st, l := Feed(State{}, "\x00\x01")
	if len(l) != 0 {
		t.Errorf("Feed = %s, %v", show(st), l)
	}
	st, l = Feed(st, "\x02")
	if st != (State{Seen: 1}) || !slices.Equal(l, []Item{{S: stanza.Stanza{Kind: stanza.Bye}}}) {
		t.Errorf("Feed = %s, %v", show(st), l)
	}
}
