package stanza

import (
	"math"
	"strings"
	"testing"
	"unicode/utf8"

	"callboy/api"
)

// kinds are all kinds, and what each of them has.
var kinds = map[uint8]string{
	1: "ur", 2: "", 3: "sp", 4: "", 5: "usp", 6: "u", 7: "u", 8: "u", 9: "u", 10: "u", 11: "u", 12: "n", 13: "um", 14: "u", 15: "n",
	32: "cn", 33: "csn", 34: "urspn", 35: "urn", 36: "n", 37: "", 38: "umsn", 39: "un", 40: "uc", 41: "n",
}

const (
	// all are the letters, in the order in which their fields are laid.
	all     = "urmspcn"
	mostN   = 281474976710655
	ann     = "ann@home.org"
	longest = "aaaaaaaaaaaaaaaa@bbbbbbbbbbbbbbbb" // 33 bytes
)

// wrongTexts are no characters.
var wrongTexts = []string{
	"\x80", "\xbf", "\xc3", "\xc3a", "a\xc3", "\xe2\x82", "\xf0\x9f\x98", "\xc0\x80", "\xc1\xbf", "\xe0\x9f\xbf", "\xf0\x8f\xbf\xbf",
	"\xed\xa0\x80", "\xed\xbf\xbf", "\xf4\x90\x80\x80", "\xfe", "\xff", "a\xffb", "\xc3\xa9\xa9",
}

// controls are both ends of what is a control, and some between.
var controls = []string{"\x00", "\x01", "\t", "\n", "\r", "\x1e", "\x1f", "\x7f"}

// plainTexts are characters without controls.
var plainTexts = []string{
	"a", "A", " ", "@", "/", "a@b", "A B", "~", "\u0080", "\u009f", "\u00e9", "\u07ff", "\u0800", "\u20ac", "\u2028", "\ufffd", "\uffff", "\U00010000", "\U0010ffff",
}

// wrongUsers are no bare addresses.
var wrongUsers = []string{
	"", "a", "@", "a@", "@b", "a@b/", "a@b/c", "a@b//", "ann@home.org/desk", "A@b", "a@B", "Ann@home.org", "ann@Home.org", "a@b@c", "a b@c", "a@b c", " a@b", "a@b ",
	"a@.b", "a@b.", "a@-b", "a@b-", "a@b..c", "a@b_c", "a@\u00e9", "\xff@b", "a@\xff", "a\n@b", "a@b\n", "/a@b", "a/b@c",
	"aaaaaaaaaaaaaaaaa@b", "a@bbbbbbbbbbbbbbbbb", longest + "b", longest + "/", longest + "/r", "aaaaaaaaaaaaaaaaa@bbbbbbbbbbbbbbb",
}

// users are bare addresses.
var users = []string{"a@b", ann, "\u00e9@0", "~!#@x-1.y", "a@b.c-d", "aaaaaaaaaaaaaaaa@b", "a@bbbbbbbbbbbbbbbb", longest}

// numbers are both ends of each number's range, and what is beside them, and far off.
var numbers = []int{
	math.MinInt, math.MinInt + 1, math.MinInt + 128, -1 << 48, -1 << 32, -256, -130, -129, -128, -127, -2, -1, 0, 1, 2, 62, 63, 64, 65, 126, 127, 128, 129, 254, 255, 256, 257,
	1 << 16, 1 << 32, mostN - 1, mostN, mostN + 1, mostN + 2, 1 << 56, math.MaxInt - 128, math.MaxInt - 1, math.MaxInt,
}

// plain tells whether a text is characters without controls, in the test's own words.
func plain(s string) bool {
	return utf8.ValidString(s) && strings.IndexFunc(s, func(c rune) bool { return c < 32 || c == 127 }) < 0
}

// bare tells whether a text is a bare address with small letters alone.
func bare(s string) bool {
	name, host, _ := strings.Cut(s, "@")
	if name == "" || len(name) > 16 || !plain(name) || strings.ContainsAny(name, " /ABCDEFGHIJKLMNOPQRSTUVWXYZ") {
		return false
	}
	if host == "" || len(host) > 16 || strings.Trim(host, "abcdefghijklmnopqrstuvwxyz0123456789.-") != "" {
		return false
	}
	return host == strings.Trim(host, ".-") && !strings.Contains(host, "..")
}

// more tells whether a stanza has more than its kind has.
func more(s Stanza, has string) bool {
	is := map[string]bool{"u": s.User != "", "r": s.Res != "", "m": s.Name != "", "s": s.Show != 0, "p": s.Prio != 0, "c": s.Code != 0, "n": s.N != 0}
	for letter, told := range is {
		if told && !strings.Contains(has, letter) {
			return true
		}
	}
	return false
}

// checked tells what Check should, in the test's own words.
func checked(s Stanza) api.Errno {
	has, is := kinds[s.Kind]
	switch {
	case !is:
		return api.ErrKind
	case more(s, has):
		return api.ErrForm
	case s.Show < 0, s.Show > 63, s.Prio < -128, s.Prio > 127, s.Code < 0, s.Code > 255, s.N < 0, s.N > mostN:
		return api.ErrRange
	case len(s.Name) > 24:
		return api.ErrLong
	case !plain(s.Name):
		return api.ErrText
	case strings.Contains(has, "u") && !bare(s.User):
		return api.ErrText
	case len(s.Res) > 12:
		return api.ErrLong
	case !plain(s.Res):
		return api.ErrText
	}
	return api.OK
}

// number is a number's bytes, the highest first.
func number(n, width int) string {
	b := ""
	for range width {
		b = string([]byte{byte(n % 256)}) + b
		n /= 256
	}
	return b
}

// short is a short text.
func short(s string) string { return string([]byte{byte(len(s))}) + s }

// bytesOf are the bytes of a field.
func bytesOf(s Stanza, letter rune) string {
	switch letter {
	case 'u':
		return short(s.User)
	case 'r':
		return short(s.Res)
	case 'm':
		return short(s.Name)
	case 's':
		return number(s.Show, 1)
	case 'p':
		return number(s.Prio+128, 1)
	case 'c':
		return number(s.Code, 1)
	}
	return number(s.N, 6)
}

// laid are the bytes of a stanza that may be.
func laid(s Stanza) string {
	b := string([]byte{s.Kind})
	for _, letter := range all {
		if strings.ContainsRune(kinds[s.Kind], letter) {
			b += bytesOf(s, letter)
		}
	}
	return b
}

// textOf parts off a short text.
func textOf(b string, most int) (string, string, api.Errno) {
	if b == "" {
		return "", "", api.ErrCut
	}
	size := int(b[0])
	if size > most {
		return "", "", api.ErrLong
	}
	if len(b)-1 < size {
		return "", "", api.ErrCut
	}
	return b[1 : 1+size], b[1+size:], api.OK
}

// numberOf parts off a number.
func numberOf(b string, width int) (int, string, api.Errno) {
	if len(b) < width {
		return 0, "", api.ErrCut
	}
	n := 0
	for at := range width {
		n = n*256 + int(b[at])
	}
	return n, b[width:], api.OK
}

// told tells what Read should, in the test's own words.
func told(b string) (Stanza, api.Errno) {
	if b == "" {
		return Stanza{}, api.ErrCut
	}
	has, is := kinds[b[0]]
	if !is {
		return Stanza{}, api.ErrKind
	}
	s, b := Stanza{Kind: b[0]}, b[1:]
	for _, letter := range all {
		if !strings.ContainsRune(has, letter) {
			continue
		}
		var e api.Errno
		switch letter {
		case 'u':
			s.User, b, e = textOf(b, 33)
		case 'r':
			s.Res, b, e = textOf(b, 12)
		case 'm':
			s.Name, b, e = textOf(b, 24)
		case 's':
			s.Show, b, e = numberOf(b, 1)
		case 'p':
			s.Prio, b, e = numberOf(b, 1)
			s.Prio -= 128
		case 'c':
			s.Code, b, e = numberOf(b, 1)
		case 'n':
			s.N, b, e = numberOf(b, 6)
		}
		if e != api.OK {
			return Stanza{}, e
		}
	}
	if b != "" {
		return Stanza{}, api.ErrForm
	}
	if e := checked(s); e != api.OK {
		return Stanza{}, e
	}
	return s, api.OK
}

// checks looks at what Check, Put and Size tell of a stanza, and at what Read makes of it again.
func checks(t *testing.T, s Stanza, want api.Errno) {
	t.Helper()
	if e := Check(s); e != want {
		t.Errorf("Check(%+v) = %d, want %d", s, int(e), int(want))
	}
	wanted := ""
	if want == api.OK {
		wanted = laid(s)
	}
	if b, e := Put(s); b != wanted || e != want {
		t.Errorf("Put(%+v) = %x %d, want %x %d", s, b, int(e), wanted, int(want))
	}
	if n := Size(s); n != len(wanted) {
		t.Errorf("Size(%+v) = %d, want %d", s, n, len(wanted))
	}
	if want != api.OK {
		return
	}
	if back, e := Read(wanted); back != s || e != api.OK {
		t.Errorf("Read(%x) = %+v %d, want %+v", wanted, back, int(e), s)
	}
}

// reads looks at what Read tells, and whether what it reads is put as it was.
func reads(t *testing.T, b string, want Stanza, wanted api.Errno) {
	t.Helper()
	s, e := Read(b)
	if s != want || e != wanted {
		t.Errorf("Read(%x) = %+v %d, want %+v %d", b, s, int(e), want, int(wanted))
	}
	if wanted != api.OK {
		return
	}
	if back, e := Put(s); back != b || e != api.OK {
		t.Errorf("Put(%+v) = %x %d, want %x", s, back, int(e), b)
	}
}

// refuses looks whether Read tells an error, and nothing else.
func refuses(t *testing.T, b string, want api.Errno) {
	t.Helper()
	reads(t, b, Stanza{}, want)
}

// usual is a stanza of a kind that may be, and has nothing that is zero.
func usual(kind uint8) Stanza {
	s := Stanza{Kind: kind}
	for _, letter := range kinds[kind] {
		switch letter {
		case 'u':
			s.User = ann
		case 'r':
			s.Res = "desk"
		case 'm':
			s.Name = "Ann O."
		case 's':
			s.Show = 5
		case 'p':
			s.Prio = -3
		case 'c':
			s.Code = 200
		case 'n':
			s.N = 0x010203040506
		}
	}
	return s
}

// greatest is a stanza of a kind that may be, and has as many bytes as it may.
func greatest(kind uint8) Stanza {
	s := usual(kind)
	for _, letter := range kinds[kind] {
		switch letter {
		case 'u':
			s.User = longest
		case 'r':
			s.Res = "abcdefghi\u20ac"
		case 'm':
			s.Name = "abcdefghijklmnopqrst\U0001f600"
		case 's':
			s.Show = 63
		case 'p':
			s.Prio = 127
		case 'c':
			s.Code = 255
		case 'n':
			s.N = mostN
		}
	}
	return s
}

// least is a stanza of a kind that may be, and has nothing but what it must.
func least(kind uint8) Stanza {
	s := Stanza{Kind: kind}
	if strings.Contains(kinds[kind], "u") {
		s.User = "a@b"
	}
	return s
}

// with is a stanza whose number of a letter is n.
func with(s Stanza, letter rune, n int) Stanza {
	switch letter {
	case 's':
		s.Show = n
	case 'p':
		s.Prio = n
	case 'c':
		s.Code = n
	case 'n':
		s.N = n
	}
	return s
}

// says is a stanza whose text of a letter is what is given.
func says(s Stanza, letter rune, text string) Stanza {
	switch letter {
	case 'u':
		s.User = text
	case 'r':
		s.Res = text
	case 'm':
		s.Name = text
	}
	return s
}

// having goes over the kinds that have a letter.
func having(letter string, do func(kind uint8)) {
	for kind, has := range kinds {
		if strings.Contains(has, letter) {
			do(kind)
		}
	}
}

// P10.1

func TestKinds(t *testing.T) {
	for i, kind := range []uint8{Login, Bye, Avail, Off, Direct, Undirect, Sub, Allow, Deny, Unsub, Probe, Get, Set, Del, Ping} {
		if int(kind) != 1+i {
			t.Errorf("the kind of the place %d is %d", i, kind)
		}
	}
	for i, kind := range []uint8{Ok, Err, Pres, Gone, Snap, Done, Push, Drop, Note, Pong} {
		if int(kind) != 32+i {
			t.Errorf("the kind of the place %d of what is told is %d", i, kind)
		}
	}
}

func TestHasAndAsks(t *testing.T) {
	for n := range 256 {
		kind := uint8(n)
		if has := Has(kind); has != kinds[kind] {
			t.Errorf("Has(%d) = %q, want %q", kind, has, kinds[kind])
		}
		if asks := Asks(kind); asks != (n >= 1 && n <= 15) {
			t.Errorf("Asks(%d) = %v", kind, asks)
		}
	}
	for kind, want := range map[uint8]string{
		Login: "ur", Bye: "", Off: "", Done: "", Avail: "sp", Direct: "usp", Undirect: "u", Sub: "u", Allow: "u", Deny: "u", Unsub: "u", Probe: "u", Del: "u",
		Get: "n", Ping: "n", Snap: "n", Pong: "n", Set: "um", Ok: "cn", Err: "csn", Pres: "urspn", Gone: "urn", Push: "umsn", Drop: "un", Note: "uc",
	} {
		if has := Has(kind); has != want {
			t.Errorf("Has(%d) = %q, want %q", kind, has, want)
		}
	}
}

// P10.2

func TestEachKindMayBe(t *testing.T) {
	for kind := range kinds {
		checks(t, least(kind), api.OK)
		checks(t, usual(kind), api.OK)
		checks(t, greatest(kind), api.OK)
	}
}

func TestOtherKinds(t *testing.T) {
	for n := range 256 {
		kind := uint8(n)
		if _, is := kinds[kind]; is {
			continue
		}
		checks(t, Stanza{Kind: kind}, api.ErrKind)
		checks(t, Stanza{Kind: kind, User: "a@b"}, api.ErrKind)
		checks(t, Stanza{Kind: kind, User: "\xff", Res: "\xff", Name: "\xff", Show: -1, Prio: -129, Code: -1, N: -1}, api.ErrKind)
	}
	checks(t, Stanza{}, api.ErrKind)
}

func TestWhatAKindDoesNotHave(t *testing.T) {
	for kind, has := range kinds {
		for _, letter := range all {
			if strings.ContainsRune(has, letter) {
				continue
			}
			for _, n := range numbers {
				s := with(usual(kind), letter, n)
				want := api.OK
				if s != usual(kind) {
					want = api.ErrForm
				}
				checks(t, s, want)
			}
			for _, text := range []string{"a", "a@b", ann, "\n", "\xff", " ", strings.Repeat("a", 25), strings.Repeat("a", 300)} {
				s := says(usual(kind), letter, text)
				want := api.OK
				if s != usual(kind) {
					want = api.ErrForm
				}
				checks(t, s, want)
			}
		}
	}
}

func TestNumbers(t *testing.T) {
	ends := map[rune][2]int{'s': {0, 63}, 'p': {-128, 127}, 'c': {0, 255}, 'n': {0, mostN}}
	for letter, end := range ends {
		having(string(letter), func(kind uint8) {
			for _, n := range numbers {
				want := api.OK
				if n < end[0] || n > end[1] {
					want = api.ErrRange
				}
				checks(t, with(usual(kind), letter, n), want)
				checks(t, with(least(kind), letter, n), want)
				checks(t, with(greatest(kind), letter, n), want)
			}
			for n := -300; n <= 300; n++ {
				want := api.OK
				if n < end[0] || n > end[1] {
					want = api.ErrRange
				}
				checks(t, with(usual(kind), letter, n), want)
			}
		})
	}
}

func TestNames(t *testing.T) {
	having("m", func(kind uint8) {
		lengths(t, kind, 'm', 24)
		textsOf(t, kind, 'm', 24)
	})
}

func TestResources(t *testing.T) {
	having("r", func(kind uint8) {
		lengths(t, kind, 'r', 12)
		textsOf(t, kind, 'r', 12)
	})
}

// lengths looks at texts of up to most bytes, and of more, of characters of one byte, of two, and of four.
func lengths(t *testing.T, kind uint8, letter rune, most int) {
	t.Helper()
	for _, c := range []string{"a", "\u00e9", "\U0001f600"} {
		for many := range 300 {
			want := api.OK
			if many*len(c) > most {
				want = api.ErrLong
			}
			checks(t, says(usual(kind), letter, strings.Repeat(c, many)), want)
		}
	}
}

// textsOf looks at texts of up to most bytes that are characters without controls, and at some that are none.
func textsOf(t *testing.T, kind uint8, letter rune, most int) {
	t.Helper()
	look := func(text string, want api.Errno) {
		t.Helper()
		checks(t, says(usual(kind), letter, text), want)
		checks(t, says(usual(kind), letter, "a"+text), want)
		checks(t, says(usual(kind), letter, strings.Repeat("a", most-len(text))+text), want)
		checks(t, says(usual(kind), letter, text+strings.Repeat("a", most-len(text))), want)
		checks(t, says(usual(kind), letter, strings.Repeat("a", most+1-len(text))+text), api.ErrLong)
		checks(t, says(usual(kind), letter, text+strings.Repeat("a", most)), api.ErrLong)
	}
	for _, text := range plainTexts {
		look(text, api.OK)
	}
	for _, text := range wrongTexts {
		look(text, api.ErrText)
	}
	for _, text := range controls {
		look(text, api.ErrText)
	}
	for b := range 256 {
		want := api.OK
		if b < 32 || b > 126 {
			want = api.ErrText
		}
		checks(t, says(usual(kind), letter, string([]byte{byte(b)})), want)
		checks(t, says(usual(kind), letter, string([]byte{'x', byte(b), 'y'})), want)
	}
}

func TestUsers(t *testing.T) {
	having("u", func(kind uint8) {
		for _, user := range users {
			checks(t, says(usual(kind), 'u', user), api.OK)
			checks(t, says(least(kind), 'u', user), api.OK)
		}
		for _, user := range wrongUsers {
			checks(t, says(usual(kind), 'u', user), api.ErrText)
			checks(t, says(least(kind), 'u', user), api.ErrText)
		}
		for b := range 256 {
			for _, user := range []string{string([]byte{byte(b)}) + "@b", "a" + string([]byte{byte(b)}) + "b@c", "a@" + string([]byte{byte(b)}), "a@b" + string([]byte{byte(b)}) + "c"} {
				s := says(usual(kind), 'u', user)
				checks(t, s, checked(s))
			}
		}
		checks(t, says(usual(kind), 'u', strings.Repeat("a", 1<<16)), api.ErrText)
	})
}

func TestCheckOrder(t *testing.T) {
	for _, x := range []struct {
		s    Stanza
		want api.Errno
	}{
		{Stanza{Kind: 16, Show: -1}, api.ErrKind},
		{Stanza{Kind: 31, User: "\xff", Name: strings.Repeat("a", 25)}, api.ErrKind},
		{Stanza{Kind: Login, N: 1}, api.ErrForm},
		{Stanza{Kind: Login, User: "A", Res: strings.Repeat("a", 13), N: -1}, api.ErrForm},
		{Stanza{Kind: Direct, User: "A", Show: 64, N: 1}, api.ErrForm},
		{Stanza{Kind: Direct, User: "A", Show: 64}, api.ErrRange},
		{Stanza{Kind: Direct, Prio: 128}, api.ErrRange},
		{Stanza{Kind: Note, User: "A", Code: 256}, api.ErrRange},
		{Stanza{Kind: Push, User: "A", Name: strings.Repeat("a", 25), N: -1}, api.ErrRange},
		{Stanza{Kind: Push, User: "A", Name: strings.Repeat("a", 25), Show: 64}, api.ErrRange},
		{Stanza{Kind: Push, User: "A", Name: "\n", N: mostN + 1}, api.ErrRange},
		{Stanza{Kind: Push, User: "A", Name: strings.Repeat("a", 25)}, api.ErrLong},
		{Stanza{Kind: Push, User: "A", Name: strings.Repeat("\n", 25)}, api.ErrLong},
		{Stanza{Kind: Push, User: "A", Name: "\n"}, api.ErrText},
		{Stanza{Kind: Set, Name: strings.Repeat("\xff", 25)}, api.ErrLong},
		{Stanza{Kind: Pres, User: "A", Res: strings.Repeat("a", 13), Prio: -129}, api.ErrRange},
		{Stanza{Kind: Pres, User: "A", Res: strings.Repeat("a", 13)}, api.ErrText},
		{Stanza{Kind: Pres, User: "a@b", Res: strings.Repeat("\n", 13)}, api.ErrLong},
		{Stanza{Kind: Gone, User: "a@b/c", Res: strings.Repeat("a", 13)}, api.ErrText},
		{Stanza{Kind: Gone, Res: strings.Repeat("a", 13), N: -1}, api.ErrRange},
		{Stanza{Kind: Login, Res: strings.Repeat("a", 13)}, api.ErrText},
		{Stanza{Kind: Login, User: "a@b", Res: strings.Repeat("a", 13)}, api.ErrLong},
	} {
		checks(t, x.s, x.want)
	}
}

func TestCheckOfAllMixes(t *testing.T) {
	several := func(do func(s Stanza)) {
		for _, user := range []string{"", "a@b", "A@b", longest} {
			for _, res := range []string{"", "r", strings.Repeat("\n", 13), "\xff"} {
				for _, name := range []string{"", "n", strings.Repeat("\n", 25), "\x7f"} {
					for _, show := range []int{-1, 0, 63, 64} {
						for _, prio := range []int{-129, -128, 0, 128} {
							do(Stanza{User: user, Res: res, Name: name, Show: show, Prio: prio})
						}
					}
				}
			}
		}
	}
	several(func(s Stanza) {
		for _, code := range []int{-1, 0, 255, 256} {
			for _, n := range []int{-1, 0, mostN, mostN + 1} {
				s.Code, s.N = code, n
				for kind := range uint8(43) {
					s.Kind = kind
					want := checked(s)
					if e := Check(s); e != want {
						t.Fatalf("Check(%+v) = %d, want %d", s, int(e), int(want))
					}
				}
			}
		}
	})
}

// P10.3

func TestPutBytes(t *testing.T) {
	for _, x := range []struct {
		s    Stanza
		want string
	}{
		{Stanza{Kind: Sub, User: "a@b"}, "\x07\x03a@b"},
		{Stanza{Kind: Login, User: "a@b", Res: "desk"}, "\x01\x03a@b\x04desk"},
		{Stanza{Kind: Login, User: "a@b"}, "\x01\x03a@b\x00"},
		{Stanza{Kind: Bye}, "\x02"},
		{Stanza{Kind: Avail, Show: 7, Prio: 1}, "\x03\x07\x81"},
		{Stanza{Kind: Avail}, "\x03\x00\x80"},
		{Stanza{Kind: Avail, Show: 63, Prio: -128}, "\x03\x3f\x00"},
		{Stanza{Kind: Avail, Show: 1, Prio: 127}, "\x03\x01\xff"},
		{Stanza{Kind: Avail, Prio: -1}, "\x03\x00\x7f"},
		{Stanza{Kind: Off}, "\x04"},
		{Stanza{Kind: Direct, User: "a@b", Show: 2, Prio: 3}, "\x05\x03a@b\x02\x83"},
		{Stanza{Kind: Undirect, User: "a@b"}, "\x06\x03a@b"},
		{Stanza{Kind: Allow, User: "a@b"}, "\x08\x03a@b"},
		{Stanza{Kind: Deny, User: "a@b"}, "\x09\x03a@b"},
		{Stanza{Kind: Unsub, User: "a@b"}, "\x0a\x03a@b"},
		{Stanza{Kind: Probe, User: "a@b"}, "\x0b\x03a@b"},
		{Stanza{Kind: Get, N: 1}, "\x0c\x00\x00\x00\x00\x00\x01"},
		{Stanza{Kind: Get}, "\x0c\x00\x00\x00\x00\x00\x00"},
		{Stanza{Kind: Set, User: "a@b", Name: "Ann"}, "\x0d\x03a@b\x03Ann"},
		{Stanza{Kind: Set, User: "a@b"}, "\x0d\x03a@b\x00"},
		{Stanza{Kind: Del, User: "a@b"}, "\x0e\x03a@b"},
		{Stanza{Kind: Ping, N: 258}, "\x0f\x00\x00\x00\x00\x01\x02"},
		{Stanza{Kind: Ok, Code: 12, N: 9}, "\x20\x0c\x00\x00\x00\x00\x00\x09"},
		{Stanza{Kind: Ok, Code: 255}, "\x20\xff\x00\x00\x00\x00\x00\x00"},
		{Stanza{Kind: Err, Code: 1, Show: 16, N: 3}, "\x21\x10\x01\x00\x00\x00\x00\x00\x03"},
		{Stanza{Kind: Pres, User: "a@b", Res: "r", Show: 4, Prio: 5, N: 6}, "\x22\x03a@b\x01r\x04\x85\x00\x00\x00\x00\x00\x06"},
		{Stanza{Kind: Gone, User: "a@b", Res: "r", N: 6}, "\x23\x03a@b\x01r\x00\x00\x00\x00\x00\x06"},
		{Stanza{Kind: Snap, N: mostN}, "\x24\xff\xff\xff\xff\xff\xff"},
		{Stanza{Kind: Done}, "\x25"},
		{Stanza{Kind: Push, User: "a@b", Name: "n", Show: 3, N: 0x010203040506}, "\x26\x03a@b\x01n\x03\x01\x02\x03\x04\x05\x06"},
		{Stanza{Kind: Drop, User: "a@b", N: 256}, "\x27\x03a@b\x00\x00\x00\x00\x01\x00"},
		{Stanza{Kind: Note, User: "a@b", Code: 2}, "\x28\x03a@b\x02"},
		{Stanza{Kind: Pong, N: 1 << 40}, "\x29\x01\x00\x00\x00\x00\x00"},
	} {
		if b, e := Put(x.s); b != x.want || e != api.OK {
			t.Errorf("Put(%+v) = %x %d, want %x", x.s, b, int(e), x.want)
		}
		if n := Size(x.s); n != len(x.want) {
			t.Errorf("Size(%+v) = %d, want %d", x.s, n, len(x.want))
		}
		reads(t, x.want, x.s, api.OK)
	}
}

func TestPutKeepsToTheOrder(t *testing.T) {
	// Each field is found where all ahead of it, in the order of the letters, end.
	for kind, has := range kinds {
		s := greatest(kind)
		b, _ := Put(s)
		b = strings.TrimPrefix(b, string([]byte{kind}))
		for _, letter := range all {
			if !strings.ContainsRune(has, letter) {
				continue
			}
			field := bytesOf(s, letter)
			if !strings.HasPrefix(b, field) {
				t.Errorf("Put(%+v): ahead of %x there is no %c", s, b, letter)
			}
			b = strings.TrimPrefix(b, field)
		}
		if b != "" {
			t.Errorf("Put(%+v): %x is left", s, b)
		}
	}
}

func TestSizes(t *testing.T) {
	for kind, want := range map[uint8]int{
		Login: 48, Bye: 1, Avail: 3, Off: 1, Direct: 37, Undirect: 35, Sub: 35, Allow: 35, Deny: 35, Unsub: 35, Probe: 35, Get: 7, Set: 60, Del: 35, Ping: 7,
		Ok: 8, Err: 9, Pres: 56, Gone: 54, Snap: 7, Done: 1, Push: 67, Drop: 41, Note: 36, Pong: 7,
	} {
		if n := Size(greatest(kind)); n != want {
			t.Errorf("Size(%+v) = %d, want %d", greatest(kind), n, want)
		}
	}
	for _, s := range []Stanza{{}, {Kind: 16}, {Kind: Sub}, {Kind: Bye, N: 1}, {Kind: Avail, Show: 64}, {Kind: Set, User: "a@b", Name: "\n"}} {
		if n := Size(s); n != 0 {
			t.Errorf("Size(%+v) = %d", s, n)
		}
	}
}

// P10.4

func TestReadOfNothingAndOtherKinds(t *testing.T) {
	refuses(t, "", api.ErrCut)
	for n := range 256 {
		if _, is := kinds[uint8(n)]; is {
			continue
		}
		kind := string([]byte{byte(n)})
		for _, rest := range []string{"", "\x00", "\x03a@b", "\xff", strings.Repeat("\x00", 200)} {
			refuses(t, kind+rest, api.ErrKind)
		}
	}
}

func TestReadOfABeginningAndOfMore(t *testing.T) {
	for kind := range kinds {
		for _, s := range []Stanza{least(kind), usual(kind), greatest(kind)} {
			b := laid(s)
			reads(t, b, s, api.OK)
			for size := range len(b) {
				refuses(t, b[:size], api.ErrCut)
			}
			for n := range 256 {
				refuses(t, b+string([]byte{byte(n)}), api.ErrForm)
			}
			refuses(t, b+b, api.ErrForm)
			refuses(t, b+strings.Repeat("\x00", 300), api.ErrForm)
		}
	}
}

func TestReadOfLengths(t *testing.T) {
	most := map[rune]int{'u': 33, 'r': 12, 'm': 24}
	for kind, has := range kinds {
		ahead := string([]byte{kind})
		for _, letter := range all {
			if !strings.ContainsRune(has, letter) {
				continue
			}
			if size, is := most[letter]; is {
				for n := range 256 {
					// Neither the bytes nor what comes behind them is there.
					want := api.ErrCut
					if n > size {
						want = api.ErrLong
					}
					if n > 0 || strings.IndexRune(has, letter) < len(has)-1 {
						refuses(t, ahead+string([]byte{byte(n)}), want)
					}
					if n > size {
						refuses(t, ahead+short(strings.Repeat("a", n)), api.ErrLong)
						refuses(t, ahead+short(strings.Repeat("\xff", n))+strings.Repeat("\x00", 300), api.ErrLong)
					}
				}
			}
			ahead += bytesOf(greatest(kind), letter)
		}
		reads(t, ahead, greatest(kind), api.OK)
	}
}

func TestReadOfWhatCheckRefuses(t *testing.T) {
	for _, x := range []struct {
		b    string
		want api.Errno
	}{
		{"\x03\x40\x80", api.ErrRange},
		{"\x03\xff\x80", api.ErrRange},
		{"\x05\x01a\x40\x80", api.ErrRange},
		{"\x05\x01a\x3f\x80", api.ErrText},
		{"\x07\x00", api.ErrText},
		{"\x07\x03A@b", api.ErrText},
		{"\x07\x05a@b/c", api.ErrText},
		{"\x07\x03a\xff@", api.ErrText},
		{"\x07" + short("aaaaaaaaaaaaaaaaa@bbbbbbbbbbbbbbb"), api.ErrText},
		{"\x07" + short(longest+"b"), api.ErrLong},
		{"\x01\x03a@b\x01\n", api.ErrText},
		{"\x01\x03a@b\x01\xff", api.ErrText},
		{"\x01\x03a@b\x0c\xc3\xa9\xc3\xa9\xc3\xa9\xc3\xa9\xc3\xa9\xc3\xa9", api.OK},
		{"\x01\x03a@b\x0b\xc3\xa9\xc3\xa9\xc3\xa9\xc3\xa9\xc3\xa9\xc3", api.ErrText},
		{"\x0d\x03a@b\x01\x7f", api.ErrText},
		{"\x0d\x03a@b\x02\xc3\x28", api.ErrText},
		{"\x0d\x03a@b\x19" + strings.Repeat("a", 25), api.ErrLong},
		// What is wrong with the bytes comes ahead of what is wrong with the stanza.
		{"\x03\x40\x80\x00", api.ErrForm},
		{"\x03\x40", api.ErrCut},
		{"\x07\x03A@b\x00", api.ErrForm},
		{"\x07\x04A@b", api.ErrCut},
		{"\x01\x01A\x0d", api.ErrLong},
		{"\x01\x01A\x0c", api.ErrCut},
		{"\x01\x22A\x0d", api.ErrLong},
		{"\x01\x21A\x0d", api.ErrCut},
		{"\x0d\x01A\x19", api.ErrLong},
		{"\x26\x01A\x01\n\x40\x00\x00\x00\x00\x00", api.ErrCut},
		{"\x26\x01A\x01\n\x40\x00\x00\x00\x00\x00\x00", api.ErrRange},
		{"\x26\x01A\x01\n\x3f\x00\x00\x00\x00\x00\x00", api.ErrText},
		{"\x26\x01A\x01\n\x40\x00\x00\x00\x00\x00\x00\x00", api.ErrForm},
	} {
		s, e := told(x.b)
		if e != x.want {
			t.Errorf("%x: %d, want %d", x.b, int(e), int(x.want))
		}
		reads(t, x.b, s, x.want)
	}
}

// P10.5

func TestReadOfAllSmallTexts(t *testing.T) {
	for one := range 256 {
		for two := range 256 {
			b := string([]byte{byte(one), byte(two)})
			s, e := told(b)
			reads(t, b, s, e)
		}
	}
	small := []byte{0, 1, 2, 3, 12, 13, 24, 25, 33, 34, 63, 64, 127, 128, 255, 'a', '@'}
	var lay func(b string, left int)
	lay = func(b string, left int) {
		s, e := told(b)
		reads(t, b, s, e)
		for _, x := range small {
			if left > 0 {
				lay(b+string([]byte{x}), left-1)
			}
		}
	}
	for kind := range kinds {
		lay(string([]byte{kind}), 3)
	}
}

func TestReadOfChangedBytes(t *testing.T) {
	for kind := range kinds {
		for _, s := range []Stanza{least(kind), usual(kind), greatest(kind)} {
			b := laid(s)
			for at := range len(b) {
				for n := range 256 {
					changed := b[:at] + string([]byte{byte(n)}) + b[at+1:]
					s, e := told(changed)
					reads(t, changed, s, e)
				}
				s, e := told(b[:at] + b[at+1:])
				reads(t, b[:at]+b[at+1:], s, e)
			}
		}
	}
}

// draw goes on to the next number.
func draw(seed *uint64, below int) int {
	*seed = *seed*6364136223846793005 + 1442695040888963407
	return int(*seed >> 33 % uint64(below))
}

// pick is one of the texts.
func pick(seed *uint64, texts []string) string { return texts[draw(seed, len(texts))] }

// drawn is a stanza of a kind, of which most may be.
func drawn(seed *uint64, kind uint8) Stanza {
	s := Stanza{Kind: kind}
	for _, letter := range kinds[kind] {
		switch letter {
		case 'u':
			s.User = pick(seed, users)
			if draw(seed, 20) == 0 {
				s.User = pick(seed, wrongUsers)
			}
		case 'r':
			s.Res = pick(seed, plainTexts) + strings.Repeat("r", draw(seed, 11))
		case 'm':
			s.Name = pick(seed, plainTexts) + strings.Repeat("m", draw(seed, 23))
		case 's':
			s.Show = draw(seed, 66) - 1
		case 'p':
			s.Prio = draw(seed, 258) - 129
		case 'c':
			s.Code = draw(seed, 258) - 1
		case 'n':
			s.N = draw(seed, 1<<20)<<29 + draw(seed, 1<<29) - 1
		}
	}
	return s
}

func TestWhatIsPutIsRead(t *testing.T) {
	seed := uint64(10)
	for range 4000 {
		for kind := range kinds {
			s := drawn(&seed, kind)
			checks(t, s, checked(s))
			if n := Size(s); n > 128 {
				t.Fatalf("Size(%+v) = %d", s, n)
			}
		}
	}
}

func TestSame(t *testing.T) {
	base := Stanza{Kind: Push, User: ann, Res: "r", Name: "n", Show: 1, Prio: 2, Code: 3, N: 4}
	all := []Stanza{
		base, {},
		{Off, ann, "r", "n", 1, 2, 3, 4},
		{Push, "a@b", "r", "n", 1, 2, 3, 4},
		{Push, ann, "R", "n", 1, 2, 3, 4},
		{Push, ann, "r", "N", 1, 2, 3, 4},
		{Push, ann, "r", "n", 0, 2, 3, 4},
		{Push, ann, "r", "n", 1, -2, 3, 4},
		{Push, ann, "r", "n", 1, 2, 0, 4},
		{Push, ann, "r", "n", 1, 2, 3, 5},
		{Kind: Off}, {Kind: Bye}, {Kind: 255}, {N: math.MinInt}, {User: "\xff"}, {User: "\xfe"},
	}
	for i, a := range all {
		for j, b := range all {
			if same := Same(a, b); same != (i == j) {
				t.Errorf("Same(%+v, %+v) = %v", a, b, same)
			}
		}
	}
}

func TestExample(t *testing.T) {
	if b, e := Put(Stanza{Kind: Sub, User: "a@b"}); b != "\x07\x03\x61\x40\x62" || e != api.OK {
		t.Errorf("Put = %x %d", b, int(e))
	}
}
