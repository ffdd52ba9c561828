package addr

import (
	"cmp"
	"slices"
	"strings"
	"testing"
	"unicode/utf8"

	"callboy/api"
)

// wrongTexts are no characters.
var wrongTexts = []string{
	"\x80", "\xbf", "\xc3", "\xc3a", "a\xc3", "\xe2\x82", "\xf0\x9f\x98", "\xc0\x80", "\xc1\xbf", "\xe0\x9f\xbf", "\xf0\x8f\xbf\xbf",
	"\xed\xa0\x80", "\xed\xbf\xbf", "\xf4\x90\x80\x80", "\xf8\x88\x80\x80\x80", "\xfe", "\xff", "a\xffb", "\xc3\xa9\xa9", "\xc3\xa9\xe2\x82",
}

// controls are both ends of what is a control, and some between.
var controls = []string{"\x00", "\x01", "\t", "\n", "\r", "\x1b", "\x1e", "\x1f", "\x7f"}

// longer are characters of two, three and four bytes, from both ends of each length.
var longer = []string{"\u0080", "\u00e9", "\u07ff", "\u0800", "\u20ac", "\ud7ff", "\ue000", "\ufffd", "\uffff", "\U00010000", "\U0001f600", "\U0010ffff"}

// wrongHosts have what a host should not.
var wrongHosts = []string{
	".", "-", "..", "--", ".-", "-.", ".a", "a.", "-a", "a-", ".a.", "-a-", "a..b", "a...b", "..a", "a..", "a.b..c", "a..b.c", "-.a", "a.-", "a-.", ".-a",
	"`", "{", "a`", "{a", "/", ":", "/0", "9:", "a/b", "a:1", "A", "Z", "M", "aB", "@", "a@b", " ", "a b", " a", "a ", "_", "a_b", "+", ",", "a,b", "[", "^", "!", "~",
	"\u00e9", "a\u00e9b", "\u20ac", "\U0001f600", "\u00b7", "\uff0e", "\u0660",
}

// hosts are hosts that may be.
var hosts = []string{
	"a", "z", "m", "0", "9", "5", "a0", "0a", "a.b", "a-b", "a--b", "a---b", "a.b.c", "0.0", "127.0.0.1", "a.-b", "a-.b", "a-.-b", "a.--.b", "a-b.c-d",
	"home.org", "z9.a0-9z", "xn--e1afmkfd", "abcdefghijklmnop", "qrstuvwxyz012345", "6789.a-a--a.b-.c",
}

// plain tells whether a text is characters without controls, in the test's own words.
func plain(s string) bool {
	return utf8.ValidString(s) && strings.IndexFunc(s, func(c rune) bool { return c < 32 || c == 127 }) < 0
}

// isOneName tells whether a text's bytes may be a name's, however many.
func isOneName(s string) bool {
	return plain(s) && !strings.ContainsAny(s, " @/ABCDEFGHIJKLMNOPQRSTUVWXYZ")
}

// isOneHost tells whether a text's bytes may be a host's, however many.
func isOneHost(s string) bool {
	if slices.Contains(strings.Split(s, "."), "") || strings.HasPrefix(s, "-") || strings.HasSuffix(s, "-") {
		return false
	}
	return strings.Trim(s, "abcdefghijklmnopqrstuvwxyz0123456789.-") == ""
}

// checked tells what Check should, in the test's own words.
func checked(a Addr) api.Errno {
	switch {
	case len(a.Name) > 16, len(a.Host) > 16, len(a.Res) > 12:
		return api.ErrLong
	case len(a.Name) == 0, len(a.Host) == 0:
		return api.ErrForm
	case !isOneName(a.Name), !isOneHost(a.Host), !plain(a.Res):
		return api.ErrText
	}
	return api.OK
}

// small is a text with small letters.
func small(s string) string {
	for i := range 26 {
		s = strings.ReplaceAll(s, string(rune('A'+i)), string(rune('a'+i)))
	}
	return s
}

// parsed tells what Parse should, in the test's own words.
func parsed(s string) (Addr, api.Errno) {
	end := len(s)
	a := Addr{}
	if slash := strings.IndexByte(s, '/'); slash >= 0 {
		if slash == len(s)-1 {
			return Addr{}, api.ErrForm
		}
		end, a.Res = slash, s[slash+1:]
	}
	for at := range end {
		if s[at] == '@' {
			a.Name, a.Host = small(s[:at]), small(s[at+1:end])
			if e := checked(a); e != api.OK {
				return Addr{}, e
			}
			return a, api.OK
		}
	}
	return Addr{}, api.ErrForm
}

// text is an address's text, if it may be.
func text(a Addr) string {
	if a.Res == "" {
		return a.Name + "@" + a.Host
	}
	return a.Name + "@" + a.Host + "/" + a.Res
}

// texts goes over all texts of up to so many of the pieces.
func texts(pieces []string, most int, do func(s string)) {
	var lay func(s string, left int)
	lay = func(s string, left int) {
		do(s)
		if left == 0 {
			return
		}
		for _, x := range pieces {
			lay(s+x, left-1)
		}
	}
	lay("", most)
}

// filled is a text of so many bytes with what is given at its end.
func filled(size int, end string) string { return strings.Repeat("a", size-len(end)) + end }

// checks looks at what Check, Print and Parse tell of an address, or of one that may not be.
func checks(t *testing.T, a Addr, want api.Errno) {
	t.Helper()
	if e := Check(a); e != want {
		t.Errorf("Check(%q) = %d, want %d", a, int(e), int(want))
	}
	wanted := ""
	if want == api.OK {
		wanted = text(a)
	}
	if s, e := Print(a); s != wanted || e != want {
		t.Errorf("Print(%q) = %q %d, want %q %d", a, s, int(e), wanted, int(want))
	}
	if want != api.OK {
		return
	}
	if b, e := Parse(wanted); b != a || e != api.OK {
		t.Errorf("Parse(%q) = %q %d", wanted, b, int(e))
	}
}

// parses looks at what Parse tells.
func parses(t *testing.T, s string, want Addr, wanted api.Errno) {
	t.Helper()
	if a, e := Parse(s); a != want || e != wanted {
		t.Errorf("Parse(%q) = %q %d, want %q %d", s, a, int(e), want, int(wanted))
	}
}

// bares looks at what Bare and IsBare tell.
func bares(t *testing.T, s, want string, wanted api.Errno) {
	t.Helper()
	if bare, e := Bare(s); bare != want || e != wanted {
		t.Errorf("Bare(%q) = %q %d, want %q %d", s, bare, int(e), want, int(wanted))
	}
	if is := IsBare(s); is != (wanted == api.OK && want == s) {
		t.Errorf("IsBare(%q) = %v, and Bare is %q %d", s, is, want, int(wanted))
	}
}

// fulls looks at what Full tells.
func fulls(t *testing.T, bare, res, want string, wanted api.Errno) {
	t.Helper()
	if s, e := Full(bare, res); s != want || e != wanted {
		t.Errorf("Full(%q, %q) = %q %d, want %q %d", bare, res, s, int(e), want, int(wanted))
	}
}

// resources looks at what Resource tells.
func resources(t *testing.T, s string, want api.Errno) {
	t.Helper()
	if e := Resource(s); e != want {
		t.Errorf("Resource(%q) = %d, want %d", s, int(e), int(want))
	}
}

// P9.1

func TestCheckLengths(t *testing.T) {
	part := map[int]api.Errno{0: api.ErrForm, 1: api.OK, 2: api.OK, 15: api.OK, 16: api.OK, 17: api.ErrLong, 18: api.ErrLong, 300: api.ErrLong, 1 << 16: api.ErrLong}
	resource := map[int]api.Errno{0: api.OK, 1: api.OK, 11: api.OK, 12: api.OK, 13: api.ErrLong, 14: api.ErrLong, 16: api.ErrLong, 256: api.ErrLong}
	for name, one := range part {
		for host, two := range part {
			for res, three := range resource {
				told := []api.Errno{one, two, three}
				want := api.OK
				if slices.Contains(told, api.ErrForm) {
					want = api.ErrForm
				}
				if slices.Contains(told, api.ErrLong) {
					want = api.ErrLong
				}
				checks(t, Addr{filled(name, ""), filled(host, ""), filled(res, "")}, want)
			}
		}
	}
}

// sized looks at a part that has no wrong byte, but where it is a host, as a name, a host and a resource.
func sized(t *testing.T, s string, within api.Errno) {
	t.Helper()
	name, host, res := within, api.ErrText, within
	if len(s) > 16 {
		name, host = api.ErrLong, api.ErrLong
	}
	if len(s) > 12 {
		res = api.ErrLong
	}
	checks(t, Addr{s, "b", ""}, name)
	checks(t, Addr{"a", s, ""}, host)
	checks(t, Addr{"a", "b", s}, res)
	resources(t, s, res)
}

func TestLengthsAreBytes(t *testing.T) {
	for _, c := range longer {
		for _, size := range []int{4, 11, 12, 13, 14, 15, 16, 17, 18, 19, 40} {
			sized(t, filled(size, c), api.OK)
			sized(t, c+filled(size-len(c), ""), api.OK)
			// The last character is not whole, by what a cut at these many bytes would leave of it.
			for left := 1; left < len(c); left++ {
				sized(t, filled(size, c[:left]), api.ErrText)
			}
		}
		for many := 1; many <= 18; many++ {
			sized(t, strings.Repeat(c, many), api.OK)
		}
	}
}

func TestNameBytes(t *testing.T) {
	for b := range 256 {
		c := string([]byte{byte(b)})
		want := api.OK
		if b < 32 || b >= 127 || strings.Contains(" @/ABCDEFGHIJKLMNOPQRSTUVWXYZ", c) {
			want = api.ErrText
		}
		for _, s := range []string{c, c + "a", "a" + c, "a" + c + "b", filled(16, c), c + filled(15, ""), "\u00e9" + c, c + "\u20ac"} {
			checks(t, Addr{s, "b", ""}, want)
			checks(t, Addr{s, "b", "r"}, want)
		}
	}
}

func TestResourceBytes(t *testing.T) {
	for b := range 256 {
		c := string([]byte{byte(b)})
		want := api.OK
		if b < 32 || b >= 127 {
			want = api.ErrText
		}
		for _, s := range []string{c, c + "a", "a" + c, "a" + c + "b", filled(12, c), c + filled(11, ""), "\u00e9" + c, c + "\u20ac"} {
			checks(t, Addr{"a", "b", s}, want)
			resources(t, s, want)
		}
	}
}

func TestHostBytes(t *testing.T) {
	for b := range 256 {
		c := string([]byte{byte(b)})
		inner := api.ErrText
		if 'a' <= b && b <= 'z' || '0' <= b && b <= '9' || b == '.' || b == '-' {
			inner = api.OK
		}
		end := inner
		if b == '.' || b == '-' {
			end = api.ErrText
		}
		for _, s := range []string{"a" + c + "b", "0" + c + "9", "a." + "b" + c + "d", filled(15, c) + "b", "a-b" + c + "c-d"} {
			checks(t, Addr{"a", s, ""}, inner)
			checks(t, Addr{"a", s, "r"}, inner)
		}
		for _, s := range []string{c, c + "a", "a" + c, c + "9", "0" + c, filled(16, c), c + filled(15, ""), c + c} {
			checks(t, Addr{"a", s, ""}, end)
		}
	}
}

func TestAllCharacters(t *testing.T) {
	for c := range 0x110000 {
		s := string(rune(c))
		if c >= 0xd800 && c < 0xe000 {
			continue
		}
		for _, a := range []Addr{{s, "b", ""}, {"a", s, ""}, {"a", "b", s}} {
			if e := Check(a); e != checked(a) {
				t.Fatalf("Check(%q) = %d", a, int(e))
			}
		}
		want := api.OK
		if c < 32 || c == 127 {
			want = api.ErrText
		}
		if e := Resource(s); e != want {
			t.Fatalf("Resource(%q) = %d", s, int(e))
		}
	}
}

func TestHosts(t *testing.T) {
	for _, s := range hosts {
		checks(t, Addr{"a", s, ""}, api.OK)
		checks(t, Addr{"a", s, "r"}, api.OK)
	}
	for _, s := range wrongHosts {
		checks(t, Addr{"a", s, ""}, api.ErrText)
		checks(t, Addr{"a", s, "r"}, api.ErrText)
	}
	pieces := []string{"a", "0", ".", "-", "/", ":", "`", "{", "Z", "\u00e9"}
	texts(pieces, 4, func(s string) { checks(t, Addr{"a", s, ""}, checked(Addr{"a", s, ""})) })
	texts([]string{"a", ".", "-"}, 8, func(s string) { checks(t, Addr{"a", s, ""}, checked(Addr{"a", s, ""})) })
}

func TestWrongTexts(t *testing.T) {
	for _, s := range slices.Concat(wrongTexts, controls) {
		for _, x := range []string{s, "a" + s, s + "a"} {
			checks(t, Addr{x, "b", ""}, api.ErrText)
			checks(t, Addr{"a", x, ""}, api.ErrText)
			checks(t, Addr{"a", "b", x}, api.ErrText)
			resources(t, x, api.ErrText)
		}
	}
	for _, s := range []string{"", "a", "A", "Z", "A B", " ", "/", "@", "a/b@c", "//", ".", "-", "~", "\u0080", "\u00a0", "\u2028", "\ufeff"} {
		checks(t, Addr{"a", "b", s}, api.OK)
		resources(t, s, api.OK)
	}
	for _, s := range []string{"!", "?", "[", "`", "{", "~", "0", ".", "-", "..", "a.", "\u0080", "\u00a0", "\u00c4", "\u0130", "\u212a", "\u2028", "\u3000", "\uff20", "\uff21"} {
		checks(t, Addr{s, "b", ""}, api.OK)
	}
}

func TestCheckOrder(t *testing.T) {
	// Each part is right, too long, none, or has what it should not, one by one and all in one.
	names := []string{"a", filled(17, ""), filled(17, " "), "\xff" + filled(16, ""), "", "A", " ", "\n"}
	homes := []string{"b", filled(17, ""), filled(17, "."), "\xff" + filled(16, ""), "", "B", ".", "\n"}
	ress := []string{"", "r", filled(13, ""), filled(13, "\n"), "\xff" + filled(12, ""), "\n", "\xff"}
	for _, name := range names {
		for _, host := range homes {
			for _, res := range ress {
				a := Addr{name, host, res}
				checks(t, a, checked(a))
			}
		}
	}
	for _, x := range []struct {
		a    Addr
		want api.Errno
	}{
		{Addr{}, api.ErrForm},
		{Addr{"", "", filled(13, "")}, api.ErrLong},
		{Addr{"", filled(17, ""), ""}, api.ErrLong},
		{Addr{filled(17, ""), "", ""}, api.ErrLong},
		{Addr{"", ".", "\n"}, api.ErrForm},
		{Addr{" ", "", "\n"}, api.ErrForm},
		{Addr{"A", ".", filled(13, "")}, api.ErrLong},
		{Addr{"A", filled(17, ""), ""}, api.ErrLong},
		{Addr{filled(17, "@"), "b", ""}, api.ErrLong},
		{Addr{"a", "b", filled(13, "\xff")}, api.ErrLong},
	} {
		checks(t, x.a, x.want)
	}
	resources(t, filled(13, "\n"), api.ErrLong)
	resources(t, strings.Repeat("\xff", 13), api.ErrLong)
	resources(t, strings.Repeat("\xff", 12), api.ErrText)
}

// P9.2

func TestParse(t *testing.T) {
	for _, x := range []struct {
		s    string
		want Addr
	}{
		{"Ann@Home.org/desk", Addr{"ann", "home.org", "desk"}},
		{"a@b", Addr{"a", "b", ""}},
		{"a@b/c", Addr{"a", "b", "c"}},
		{"AZ@AZ/AZ", Addr{"az", "az", "AZ"}},
		{"ABCDEFGHIJKLM@NOPQRSTUVWXYZ/ABCXYZ", Addr{"abcdefghijklm", "nopqrstuvwxyz", "ABCXYZ"}},
		{"NOPQRSTUVWXYZ@ABCDEFGHIJKLM/Desk", Addr{"nopqrstuvwxyz", "abcdefghijklm", "Desk"}},
		{"a@b//", Addr{"a", "b", "/"}},
		{"a@b/c/", Addr{"a", "b", "c/"}},
		{"a@b/c/d", Addr{"a", "b", "c/d"}},
		{"a@b//c", Addr{"a", "b", "/c"}},
		{"a@b/@", Addr{"a", "b", "@"}},
		{"a@b/C@D/E", Addr{"a", "b", "C@D/E"}},
		{"a@b/ ", Addr{"a", "b", " "}},
		{"\u00c4\u00c9@B/\u00c4", Addr{"\u00c4\u00c9", "b", "\u00c4"}},
		{"[`{@b", Addr{"[`{", "b", ""}},
		{"\u212aA@B", Addr{"\u212aa", "b", ""}},
		{filled(16, "A") + "@" + filled(16, "B") + "/" + filled(12, "C"), Addr{filled(16, "a"), filled(16, "b"), filled(12, "C")}},
		{strings.Repeat("\U0010ffff", 4) + "@b/" + strings.Repeat("\u20ac", 4), Addr{strings.Repeat("\U0010ffff", 4), "b", strings.Repeat("\u20ac", 4)}},
	} {
		parses(t, x.s, x.want, api.OK)
	}
}

func TestParseRefuses(t *testing.T) {
	for _, x := range []struct {
		s    string
		want api.Errno
	}{
		{"", api.ErrForm},
		{"@", api.ErrForm},
		{"/", api.ErrForm},
		{"@/", api.ErrForm},
		{"/@", api.ErrForm},
		{"a", api.ErrForm},
		{"a/b", api.ErrForm},
		{"a/b@c", api.ErrForm},
		{"a/@", api.ErrForm},
		{"/a@b", api.ErrForm},
		{"//a@b/c", api.ErrForm},
		{"a@b/", api.ErrForm},
		{"@b", api.ErrForm},
		{"a@", api.ErrForm},
		{"@b/c", api.ErrForm},
		{"a@/c", api.ErrForm},
		{"@/c", api.ErrForm},
		{"a@@", api.ErrText},
		{"@@", api.ErrForm},
		{"@@b", api.ErrForm},
		{"a@b@c", api.ErrText},
		{"a@b@c/d", api.ErrText},
		{"a@@b", api.ErrText},
		{"a b@c", api.ErrText},
		{"a@b c", api.ErrText},
		{" a@b", api.ErrText},
		{"a@b ", api.ErrText},
		{"a@ b", api.ErrText},
		{"a\n@b", api.ErrText},
		{"a@b/\n", api.ErrText},
		{"a@b/c\x7f", api.ErrText},
		{"\xff@b", api.ErrText},
		{"a@\u00e9", api.ErrText},
		{"a@b/\xc3", api.ErrText},
		// What is wrong with the text comes ahead of what is wrong with its parts.
		{filled(17, ""), api.ErrForm},
		{filled(17, "") + "/a@b", api.ErrForm},
		{filled(17, "") + "@b/", api.ErrForm},
		{"a@" + filled(17, "") + "/", api.ErrForm},
		{"\xff@b/", api.ErrForm},
		{"a@.b/", api.ErrForm},
		{"\n/x@y", api.ErrForm},
		{filled(17, "") + "@b", api.ErrLong},
		{filled(17, "A") + "@b", api.ErrLong},
		{"a@" + filled(17, ""), api.ErrLong},
		{"a@b/" + filled(13, ""), api.ErrLong},
		{"a@b/" + filled(13, "/"), api.ErrLong},
		{"@b/" + filled(13, ""), api.ErrLong},
		{"a@/" + filled(13, "\n"), api.ErrLong},
		{"@" + filled(17, ""), api.ErrLong},
		{filled(17, "") + "@", api.ErrLong},
		{" @b/" + filled(13, ""), api.ErrLong},
		{"@b/\n", api.ErrForm},
		{" @", api.ErrForm},
		{strings.Repeat("a", 1<<20) + "@b", api.ErrLong},
		{"a@b/" + strings.Repeat("/", 1<<20), api.ErrLong},
		{strings.Repeat("@", 1<<20), api.ErrLong},
	} {
		parses(t, x.s, Addr{}, x.want)
		bares(t, x.s, "", x.want)
		fulls(t, x.s, "", "", x.want)
		fulls(t, x.s, "r", "", x.want)
		fulls(t, x.s, filled(13, "\n"), "", x.want)
	}
}

func TestParseOfAllSmallTexts(t *testing.T) {
	texts([]string{"a", "Z", "0", "@", "/", ".", "-", " ", "\x1f", "\xc3", "\xa9"}, 5, func(s string) {
		want, wanted := parsed(s)
		parses(t, s, want, wanted)
		bare := ""
		if wanted == api.OK {
			bare = text(Addr{want.Name, want.Host, ""})
		}
		bares(t, s, bare, wanted)
	})
	// Longer ones of what parts a text, and of a letter.
	texts([]string{"A", "@", "/"}, 9, func(s string) {
		want, wanted := parsed(s)
		parses(t, s, want, wanted)
	})
}

// P9.3

func TestPrint(t *testing.T) {
	for _, x := range []struct {
		a    Addr
		want string
	}{
		{Addr{"a", "b", ""}, "a@b"},
		{Addr{"a", "b", "c"}, "a@b/c"},
		{Addr{"ann", "home.org", "desk"}, "ann@home.org/desk"},
		{Addr{"a", "b", "/"}, "a@b//"},
		{Addr{"a", "b", "@/A "}, "a@b/@/A "},
		{Addr{"\u00e9", "0", "\u20ac"}, "\u00e9@0/\u20ac"},
		{Addr{filled(16, ""), filled(16, ""), filled(12, "")}, filled(16, "") + "@" + filled(16, "") + "/" + filled(12, "")},
	} {
		if s, e := Print(x.a); s != x.want || e != api.OK {
			t.Errorf("Print(%q) = %q %d, want %q", x.a, s, int(e), x.want)
		}
	}
}

func TestBare(t *testing.T) {
	for _, x := range []struct{ s, want string }{
		{"a@b", "a@b"},
		{"a@b/c", "a@b"},
		{"A@b", "a@b"},
		{"a@B", "a@b"},
		{"A@B/C", "a@b"},
		{"a@b//", "a@b"},
		{"a@b/@c", "a@b"},
		{"Ann@Home.org/desk", "ann@home.org"},
		{"\u00c4@b/\u00c4", "\u00c4@b"},
		{filled(16, "Z") + "@" + filled(16, "") + "/" + filled(12, ""), filled(16, "z") + "@" + filled(16, "")},
	} {
		bares(t, x.s, x.want, api.OK)
		bares(t, x.want, x.want, api.OK)
	}
}

func TestIsBare(t *testing.T) {
	for _, s := range []string{"a@b", "ann@home.org", "\u00c4@b", "a.@b", "!@0", filled(16, "") + "@" + filled(16, "")} {
		if !IsBare(s) {
			t.Errorf("%q is not bare", s)
		}
	}
	for _, s := range []string{
		"", "@", "a", "a@", "@b", "a@b/", "a@b/c", "A@b", "a@B", "Ann@home.org", "ann@home.Org", "a@b@c", "a b@c", "a@b ", " a@b", "a@b\n", "a@.b", "a@b.", "\xff@b",
		filled(17, "") + "@b", "a@" + filled(17, ""), "ann@home.org/desk", "/a@b", "a/@b",
	} {
		if IsBare(s) {
			t.Errorf("%q is bare", s)
		}
	}
}

func TestFull(t *testing.T) {
	for _, x := range []struct {
		bare, res, want string
		wanted          api.Errno
	}{
		{"a@b", "c", "a@b/c", api.OK},
		{"a@b", "", "a@b", api.OK},
		{"A@B", "C", "a@b/C", api.OK},
		{"A@B", "", "a@b", api.OK},
		{"ann@home.org", "desk", "ann@home.org/desk", api.OK},
		{"a@b", "/", "a@b//", api.OK},
		{"a@b", "@", "a@b/@", api.OK},
		{"a@b", "c/", "a@b/c/", api.OK},
		{"a@b", " ", "a@b/ ", api.OK},
		{"a@b", filled(12, ""), "a@b/" + filled(12, ""), api.OK},
		{"a@b", "\U0010ffff\U0010ffff\U0010ffff", "a@b/\U0010ffff\U0010ffff\U0010ffff", api.OK},
		{filled(16, "") + "@" + filled(16, ""), filled(12, ""), filled(16, "") + "@" + filled(16, "") + "/" + filled(12, ""), api.OK},
		{"a@b", filled(13, ""), "", api.ErrLong},
		{"a@b", filled(13, "\n"), "", api.ErrLong},
		{"a@b", "\n", "", api.ErrText},
		{"a@b", "c\x7f", "", api.ErrText},
		{"a@b", "\xff", "", api.ErrText},
		{"a@b", filled(12, "\u20ac"[:2]), "", api.ErrText},
		// A resource that is there comes ahead of the one that is wanted, the same one, too.
		{"a@b/c", "d", "", api.ErrForm},
		{"a@b/c", "c", "", api.ErrForm},
		{"a@b/c", "", "", api.ErrForm},
		{"a@b//", "", "", api.ErrForm},
		{"a@b/c", filled(13, ""), "", api.ErrForm},
		{"a@b/c", "\n", "", api.ErrForm},
		// A wrong text comes ahead of both.
		{"a@b/" + filled(13, ""), "c", "", api.ErrLong},
		{"a@b/" + filled(13, ""), "\n", "", api.ErrLong},
		{"a@b/\n", filled(13, ""), "", api.ErrText},
		{"a@b/", "c", "", api.ErrForm},
		{"a@b@c", "d", "", api.ErrText},
		{"a@", "\n", "", api.ErrForm},
		{"a", filled(13, ""), "", api.ErrForm},
		{" @b", filled(13, ""), "", api.ErrText},
	} {
		fulls(t, x.bare, x.res, x.want, x.wanted)
	}
}

func TestFullOfSmallTexts(t *testing.T) {
	ress := []string{"", "r", "R/@", "\n", "\xff", filled(12, ""), filled(13, "")}
	texts([]string{"a", "Z", "@", "/", ".", "\xc3"}, 5, func(s string) {
		for _, res := range ress {
			a, wanted := parsed(s)
			if wanted == api.OK && a.Res != "" {
				wanted = api.ErrForm
			}
			a.Res = res
			if wanted == api.OK {
				wanted = checked(a)
			}
			want := ""
			if wanted == api.OK {
				want = text(a)
			}
			fulls(t, s, res, want, wanted)
		}
	})
}

// P9.4

// rising are addresses, and what are none, each one less than all behind it.
var rising = []Addr{
	{},
	{"", "", "a"},
	{"", "a", ""},
	{"", "a", "a"},
	{" ", "z", "z"},
	{"A", "", ""},
	{"Z", "z", ""},
	{"a", "", ""},
	{"a", "", "z"},
	{"a", "b", ""},
	{"a", "b", "/"},
	{"a", "b", "A"},
	{"a", "b", "Z"},
	{"a", "b", "a"},
	{"a", "b", "ab"},
	{"a", "b", "b"},
	{"a", "b", "\u00e9"},
	{"a", "b", "\uffff"},
	{"a", "b", "\U00010000"},
	{"a", "b", "\xff"},
	{"a", "b-c", ""}, // as texts this one would be ahead of a@b/c
	{"a", "b.c", ""},
	{"a", "b.c", "a"},
	{"a", "b0", "a"},
	{"a", "ba", "a"},
	{"a", "c", ""},
	{"a", "\xff", "z"},
	{"a!", "a", ""}, // and this one ahead of a@b
	{"a0", "a", ""},
	{"aa", "a", ""},
	{"ab", "a", "a"},
	{"b", "", ""},
	{"b", "a", ""},
	{"b", "a", "z"},
	{"b", "b", "a"},
	{"\u00e9", "a", ""},
	{"\u00e9", "b", ""},
	{"\uffff", "a", ""},
	{"\U00010000", "a", ""},
	{"\xff", "", ""},
}

func TestLessAndSame(t *testing.T) {
	for i, a := range rising {
		for j, b := range rising {
			if Less(a, b) != (i < j) {
				t.Errorf("Less(%q, %q) = %v", a, b, Less(a, b))
			}
			if Same(a, b) != (i == j) {
				t.Errorf("Same(%q, %q) = %v", a, b, Same(a, b))
			}
		}
	}
}

func TestLessAndSameOfAllSmallParts(t *testing.T) {
	var told []string
	texts([]string{"a", "b"}, 2, func(s string) { told = append(told, s) })
	var all []Addr
	for _, name := range told {
		for _, host := range told {
			for _, res := range told {
				all = append(all, Addr{name, host, res})
			}
		}
	}
	for _, a := range all {
		for _, b := range all {
			order := cmp.Or(strings.Compare(a.Name, b.Name), strings.Compare(a.Host, b.Host), strings.Compare(a.Res, b.Res))
			if Less(a, b) != (order < 0) || Same(a, b) != (order == 0) {
				t.Fatalf("%q and %q: Less %v, Same %v", a, b, Less(a, b), Same(a, b))
			}
		}
	}
}

func TestSameIsByBytes(t *testing.T) {
	a := Addr{"ann", "home.org", "desk"}
	if !Same(a, Addr{"an" + "n", strings.Clone("home.org"), "desk"}) {
		t.Error("the same parts are one address")
	}
	for _, b := range []Addr{
		{"Ann", "home.org", "desk"}, {"an", "home.org", "desk"}, {"anna", "home.org", "desk"}, {"bob", "home.org", "desk"},
		{"ann", "Home.org", "desk"}, {"ann", "home.or", "desk"}, {"ann", "home.orgs", "desk"},
		{"ann", "home.org", "Desk"}, {"ann", "home.org", "des"}, {"ann", "home.org", "desks"}, {"ann", "home.org", ""}, {"ann", "home.org", "desk "},
		{"home.org", "ann", "desk"}, {"ann", "desk", "home.org"}, {"annhome.org", "", "desk"}, {"ann", "home.orgdesk", ""},
	} {
		if Same(a, b) || Same(b, a) {
			t.Errorf("%q and %q are two", a, b)
		}
	}
}

// P9.5

func TestPrintedIsParsed(t *testing.T) {
	seed := uint64(9)
	draw := func(n int) int {
		seed = seed*6364136223846793005 + 1442695040888963407
		return int(seed >> 33 % uint64(n))
	}
	bits := []string{"a", "z", "0", "9", ".", "-", "A", "Z", "@", "/", " ", "\x1f", "\x7f", "\u00e9", "\u20ac", "\U0001f600", "\xc3"}
	part := func(often, most int) string {
		s := ""
		for range draw(most) {
			at := draw(often)
			if draw(8) == 0 {
				at = draw(len(bits))
			}
			s += bits[at]
		}
		return s
	}
	may := 0
	for range 40000 {
		a := Addr{part(4, 9), part(4, 9), part(len(bits)-4, 6)}
		checks(t, a, checked(a))
		s := text(a)
		want, wanted := parsed(s)
		parses(t, s, want, wanted)
		if wanted != api.OK {
			continue
		}
		may++
		printed, e := Print(want)
		ahead, behind, _ := strings.Cut(s, "/")
		if behind != "" {
			behind = "/" + behind
		}
		if printed != small(ahead)+behind || e != api.OK {
			t.Errorf("%q is parsed, and printed as %q %d", s, printed, int(e))
		}
		bares(t, printed, text(Addr{want.Name, want.Host, ""}), api.OK)
		fulls(t, text(Addr{want.Name, want.Host, ""}), want.Res, printed, api.OK)
	}
	if may < 1000 {
		t.Errorf("only %d were addresses", may)
	}
}

// The example.

func TestExample(t *testing.T) {
	parses(t, "Ann@Home.org/desk", Addr{"ann", "home.org", "desk"}, api.OK)
}
