package glob_test

import (
	"math/rand"
	"regexp"
	"slices"
	"strings"
	"sync"
	"testing"

	"caravan/api"
	"caravan/glob"
)

// parsed answers the pattern of a text that is one.
func parsed(t *testing.T, s string) *glob.Pattern {
	t.Helper()
	p, err := glob.Parse(s)
	if p == nil || err != api.OK {
		t.Fatalf("Parse(%q) = %v, %d", s, p, err)
	}
	return p
}

func isNone(t *testing.T, s string, want api.Errno) {
	t.Helper()
	if p, err := glob.Parse(s); p != nil || err != want {
		t.Errorf("Parse(%.200q) = %v, %d, not %d", s, p, err, want)
	}
}

// matches tells that a pattern matches the paths of the one list, and none of the other.
func matches(t *testing.T, s string, yes, no []string) {
	t.Helper()
	p := parsed(t, s)
	for _, path := range yes {
		if !p.Match(path) {
			t.Errorf("%q does not match %q", s, path)
		}
	}
	for _, path := range no {
		if p.Match(path) {
			t.Errorf("%q matches %q", s, path)
		}
	}
}

// The chapter's examples.
func TestExamples(t *testing.T) {
	for _, x := range []struct {
		pattern string
		yes, no []string
	}{
		{"a*c", []string{"ac", "abc", "x/abc/y"}, []string{"a/c", "abcd"}},
		{"/a*c", []string{"abc", "abc/y"}, []string{"x/abc"}},
		{"a**c", []string{"a/b/c"}, nil},
		{"(?i)X?", []string{"xy", "XY", "z/xy"}, []string{"x/y", "x"}},
		{"[!a-c]x", []string{"dx"}, []string{"ax", "/x"}},
		{`a[b-]\*`, []string{"a-*", "ab*"}, []string{"a-b"}},
	} {
		matches(t, x.pattern, x.yes, x.no)
	}
	for _, s := range []string{"", "!", "/", "!!a", "[", "[]", "[b-a]", `\`, `\/`, "[a/]"} {
		isNone(t, s, api.ErrForm)
	}
	isNone(t, strings.Repeat("a", 129), api.ErrLong)
}

// P7.1: 128 bytes are a pattern's, of whatever kind, one more is ErrLong, whatever else is wrong.
func TestParseLong(t *testing.T) {
	for _, s := range []string{"a", "*", "?", "/", "[!a-c]", `\\`, "é", "(?d)", "!", "["} {
		for n := range 300 {
			text := "!(?i)(?d)/" + strings.Repeat(s, n) + "b"
			got, err := glob.Parse(text)
			switch {
			case len(text) > 128:
				isNone(t, text, api.ErrLong)
			case s == "[" && n > 0:
				isNone(t, text, api.ErrForm)
			case got == nil || err != api.OK || got.Text() != text:
				t.Errorf("Parse(%q) = %d", text, err)
			}
		}
	}
	for _, s := range []string{"!", "/", "[", `\`, "\x00", "(?i)"} {
		isNone(t, strings.Repeat(s, 129), api.ErrLong)
		isNone(t, strings.Repeat(s, 1<<20), api.ErrLong)
	}
}

// P7.1: what is no pattern's text, though a text near to it is one.
func TestParseErrors(t *testing.T) {
	for _, s := range []string{
		"(?i)", "(?d)", "(?i)(?d)!", "(?d)/", "!/", "(?i)!/",
		"!!a", "!(?i)!a", "(?i)(?i)a", "(?d)(?d)a", "(?i)(?d)(?i)a", "(?d)!(?i)(?d)a", "!(?d)(?i)!/a", "(?i)(?i)", "!!",
		`a\`, `a\/`, `\/a`, `a\/b`, `\\\`, `/\`, `/\/`, `*\`,
		"a[", "[a", "[!", "[!]", "[!!", "[]a", "[!]a", "[]]", "[!]]", "[a]b[", "[a-", "[a-]b[", "[[", "[a-z", "[a-z-",
		"[/]", "[a/b]", "[/a]", "[!/]", "[a-/]", "[--/]", "[+-/]", "[a]/[/]",
		`[\]`, `[\`, `[a\]`, `[a\`, `[\/]`, `[a\/]`, `[a-\/]`, `[+-\/]`, `[a-\]`, `[!\]`, `[\\\]`,
		"[b-a]", "[!b-a]", "[ab-a]", "[a-bc-b]", "[a--]", `[a-\]]`, `[\b-a]`, `[b-\a]`, "(?i)[a-Z]", "[z-A]", "[\xff-\xfe]", "[!\x01-\x00]", "[\x80-\x7f]",
	} {
		isNone(t, s, api.ErrForm)
	}
	for _, s := range []string{
		"a", "(?i)a", "(?x)", "(?i", "?i)", "(?I)(?I)a", "a!!", "a(?i)(?i)", "/!!", "/(?i)(?i)", "//", "///", "a/", "a//b", "]", "a]", "a-b", "-", ")", "\x00", "\xff\xfe", "\n", " ",
		`\\`, `\!`, `\!!`, `!\!`, `\(?i)`, `\a`, `\[`, `\]`, "\\\x00", "***", "****?",
		"[a]", "[!a]", "[!!]", "[a!]", "[!!-a]", "[[]", "[[[]", "[a[b]", "[[:a:]]", "[-]", "[!-]", "[--]", "[---]", "[a-]", "[-a]", "[a-b-]", "[a-b-c]", "[a-a]", "[*?]", "[^a]", "[+--]", "[ -~]", "[--a]",
		`[\]]`, `[\\]`, `[\-]`, `[\!]`, `[\[]`, `[\a-\b]`, `[a-\b]`, `[A-\]]`, `[!\]-\]]`, `[\--\-]`, "[.-0]", "[\x00-\xff]",
	} {
		parsed(t, s)
	}
}

// former answers what tells by shapes of the library's whether a text is a pattern's: they leave out that marks are there once, and that ranges rise, which is looked at beside.
func former() func(s string) bool {
	one, first := `(?:[^\]/\\]|\\[^/])`, `(?:[^\]/\\!]|\\[^/])`
	end := `(?:-` + one + `)?`
	class := `\[(?:!` + one + `|` + first + `)` + end + `(?:` + one + end + `)*\]`
	heads := regexp.MustCompile(`^(!|\(\?i\)|\(\?d\))*`)
	body := regexp.MustCompile(`(?s)^(?:` + class + `|\\[^/]|[^\[\\])+$`)
	classes := regexp.MustCompile(`(?s)\\.|` + class)
	ranges := regexp.MustCompile(`(?s)(` + one + `)(?:-(` + one + `))?`)
	rise := func(class string) bool {
		for _, r := range ranges.FindAllStringSubmatch(strings.TrimPrefix(class[1:len(class)-1], "!"), -1) {
			low, high := r[1], r[2]
			if high != "" && high[len(high)-1] < low[len(low)-1] {
				return false
			}
		}
		return true
	}
	return func(s string) bool {
		head := heads.FindString(s)
		for _, mark := range []string{"!", "(?i)", "(?d)"} {
			if strings.Count(head, mark) > 1 {
				return false
			}
		}
		s = strings.TrimPrefix(s[len(head):], "/")
		return body.MatchString(s) && !slices.ContainsFunc(classes.FindAllString(s, -1), func(found string) bool {
			return found[0] == '[' && !rise(found)
		})
	}
}

// P7.1: all short texts, and many long ones, against the shape.
func TestParseForm(t *testing.T) {
	formed := former()
	check := func(s string) bool {
		want := formed(s)
		if p, err := glob.Parse(s); (err == api.OK) != want || (p != nil) != want || !want && err != api.ErrForm {
			t.Fatalf("Parse(%q) = %v, %d, not %t", s, p, err, want)
		}
		return want
	}
	texts := []string{""}
	for range 5 {
		var next []string
		for _, s := range texts {
			for _, c := range `[]!-\/ab` {
				next = append(next, s+string(c))
			}
		}
		for _, s := range next {
			check(s)
		}
		texts = next
	}
	r := rand.New(rand.NewSource(71))
	bits := []string{"[", "]", "[", "]", "!", "-", `\`, "/", "a", "b", "B", "*", "?", "(?i)", "(?d)", "!", "(", "[!", "a-b", `\]`}
	good := 0
	for range 60000 {
		s := ""
		for range r.Intn(12) {
			s += bits[r.Intn(len(bits))]
		}
		if check(s) {
			good++
		}
	}
	if good < 5000 {
		t.Errorf("only %d are patterns' texts", good)
	}
}

// headed answers all texts of the marks, each at most once, in each order.
func headed() []string {
	all := []string{""}
	for i := 0; i < len(all); i++ {
		for _, mark := range []string{"!", "(?i)", "(?d)"} {
			if !strings.Contains(all[i], mark) {
				all = append(all, all[i]+mark)
			}
		}
	}
	return all
}

// P7.2, and of P7.1 which marks there are: whatever is behind them.
func TestMarks(t *testing.T) {
	if n := len(headed()); n != 16 {
		t.Fatalf("%d", n)
	}
	for _, head := range headed() {
		for _, root := range []string{"", "/"} {
			for _, body := range []string{"a", "(?x)", "a/!b", "a(?i)", "a!(?d)", "*", "[!a]", `\!`, `\(?d)`, "A//"} {
				s := head + root + body
				p := parsed(t, s)
				negated, folded := strings.Contains(head, "!"), strings.Contains(head, "(?i)")
				deletable, rooted := strings.Contains(head, "(?d)"), root == "/"
				for range 2 { // and behind a Match as ahead of it
					if p.Negated() != negated || p.Folded() != folded || p.Deletable() != deletable || p.Rooted() != rooted {
						t.Errorf("%q: %t, %t, %t, %t", s, p.Negated(), p.Folded(), p.Deletable(), p.Rooted())
					}
					if p.Text() != s {
						t.Errorf("%q: Text = %q", s, p.Text())
					}
					p.Match("a/b")
				}
			}
		}
		isNone(t, head, api.ErrForm)
		isNone(t, head+"/", api.ErrForm)
		for _, mark := range []string{"!", "(?i)", "(?d)"} {
			if strings.Contains(head, mark) {
				isNone(t, head+mark+"a", api.ErrForm)
				isNone(t, mark+head+"a", api.ErrForm)
			}
			// behind the / it is elements, of which ? is any byte
			matches(t, head+"/"+mark+"a", []string{mark + "a", strings.Replace(mark, "?", "x", 1) + "a"}, []string{"a", "b", mark})
		}
	}
}

// P7.2, P7.3: of nil, and of what Parse did not make.
func TestOfNone(t *testing.T) {
	for _, p := range []*glob.Pattern{nil, {}, new(glob.Pattern)} {
		if p.Negated() || p.Deletable() || p.Folded() || p.Rooted() || p.Text() != "" {
			t.Errorf("%v: %t, %t, %t, %t, %q", p, p.Negated(), p.Deletable(), p.Folded(), p.Rooted(), p.Text())
		}
		for _, path := range []string{"", "a", "/", "a/b", strings.Repeat("a", 161)} {
			if p.Match(path) {
				t.Errorf("%v matches %q", p, path)
			}
		}
	}
}

// P7.3: which bytes each element that stands for one matches, of all of them.
func TestMatchOfEachByte(t *testing.T) {
	letter := func(c byte) bool { return 'a' <= c|32 && c|32 <= 'z' }
	among := func(low, high byte) func(byte) bool {
		return func(c byte) bool { return low <= c && c <= high }
	}
	for _, x := range []struct {
		pattern string
		want    func(c byte) bool
	}{
		{"/?", func(c byte) bool { return c != '/' }},
		{"/[a]", among('a', 'a')},
		{"/[!a]", func(c byte) bool { return c != '/' && c != 'a' }},
		{"/[\x00-\xff]", func(c byte) bool { return c != '/' }},
		{"/[!\x00-\xff]", func(c byte) bool { return false }},
		{"/[.-0]", func(c byte) bool { return c == '.' || c == '0' }},
		{"/[!.-0]", func(c byte) bool { return c != '/' && c != '.' && c != '0' }},
		{"/[b-dx]", func(c byte) bool { return among('b', 'd')(c) || c == 'x' }},
		{"/[!b-dx]", func(c byte) bool { return c != '/' && !among('b', 'd')(c) && c != 'x' }},
		{"/[b-b]", among('b', 'b')},
		{"/[a-c-e]", func(c byte) bool { return among('a', 'c')(c) || c == '-' || c == 'e' }},
		{"/[b-]", func(c byte) bool { return c == 'b' || c == '-' }},
		{"/[-b]", func(c byte) bool { return c == 'b' || c == '-' }},
		{"/[a-b-]", func(c byte) bool { return c == 'a' || c == 'b' || c == '-' }},
		{"/[--]", among('-', '-')},
		{"/[+--]", among('+', '-')},
		{"/[--a]", func(c byte) bool { return c != '/' && among('-', 'a')(c) }},
		{"/[!-]", func(c byte) bool { return c != '/' && c != '-' }},
		{"/[!!]", func(c byte) bool { return c != '/' && c != '!' }},
		{"/[a!]", func(c byte) bool { return c == 'a' || c == '!' }},
		{`/[\!a]`, func(c byte) bool { return c == 'a' || c == '!' }},
		{"/[*?[^]", func(c byte) bool { return c == '*' || c == '?' || c == '[' || c == '^' }},
		{`/[\]]`, among(']', ']')},
		{`/[\\]`, among('\\', '\\')},
		{`/[a\-z]`, func(c byte) bool { return c == 'a' || c == '-' || c == 'z' }},
		{`/[\a-\c]`, among('a', 'c')},
		{`/[[-\]]`, among('[', ']')},
		{"(?i)/[a]", func(c byte) bool { return c == 'a' || c == 'A' }},
		{"(?i)/[B-D]", func(c byte) bool { return among('b', 'd')(c | 32) }},
		{"(?i)/[!B-D]", func(c byte) bool { return c != '/' && !among('b', 'd')(c|32) }},
		{"(?i)/[Z-a]", func(c byte) bool { return among('Z', 'a')(c) || c == 'z' || c == 'A' }},
		{"(?i)/[@-[]", func(c byte) bool { return among('@', '[')(c) || among('a', 'z')(c) }},
		{"(?i)/[`-{]", func(c byte) bool { return among('`', '{')(c) || among('A', 'Z')(c) }},
		{"(?i)/[\x00-\x1f]", among(0, 31)},
		{"(?i)/[\xc0-\xdf]", among(0xc0, 0xdf)},
		{"(?i)/[!\x00-\x7f]", among(0x80, 0xff)},
		{"(?i)/?", func(c byte) bool { return c != '/' }},
		{"/[\x00-@[-\xff]", func(c byte) bool { return c != '/' && !among('A', 'Z')(c) }},
		{"(?i)/[\x00-@[-\xff]", func(c byte) bool { return c != '/' }},
		{"(?i)/[!\x00-@[-`{-\xff]", letter},
	} {
		p := parsed(t, x.pattern)
		for c := range 256 {
			if got := p.Match(string([]byte{byte(c)})); got != x.want(byte(c)) {
				t.Errorf("%q matches %q: %t", x.pattern, []byte{byte(c)}, got)
			}
		}
		if p.Match("") || p.Match("aa") || p.Match("..") {
			t.Errorf("%q matches more or less than a byte", x.pattern)
		}
	}
}

// P7.3: a byte, as it is, and behind a \, against each byte; folded, A to Z are a to z, and no others.
func TestMatchOfBytes(t *testing.T) {
	for c := range 256 {
		own := string([]byte{byte(c)})
		patterns := []string{"/" + own, `/\` + own}
		switch own {
		case "/":
			patterns = patterns[:1]
		case "*", "?", "[", `\`:
			patterns = patterns[1:]
		}
		for _, s := range patterns {
			plain, folded := parsed(t, s), parsed(t, "(?i)"+s)
			for d := range 256 {
				path := string([]byte{byte(d)})
				same := c == d
				if got := plain.Match(path); got != same {
					t.Errorf("%q matches %q: %t", s, path, got)
				}
				small := strings.ToLower(own)
				alike := same || c < 128 && d < 128 && small == strings.ToLower(path) && small >= "a" && small <= "z"
				if got := folded.Match(path); got != alike {
					t.Errorf("folded %q matches %q: %t", s, path, got)
				}
			}
		}
	}
}

// P7.3: * and **, each of which takes as much as it must; what parts there are.
func TestMatchParts(t *testing.T) {
	for _, x := range []struct {
		pattern string
		yes, no []string
	}{
		{"a", []string{"a", "a/b", "b/a", "b/a/c", "/a", "a/", "//a//", "b/a/a"}, []string{"", "/", "ab", "ba", "b", "A", "ab/ba", "b/ab/c"}},
		{"/a", []string{"a", "a/b", "a/", "a//", "a/a"}, []string{"", "/a", "b/a", "//a", "ab", "ab/a"}},
		{"a/b", []string{"a/b", "x/a/b", "a/b/x", "x/a/b/y", "a/a/b"}, []string{"a", "b", "ab", "a/xb", "ax/b", "xa/b", "a/bx", "a//b", "a/x/b", "b/a"}},
		{"/a/b", []string{"a/b", "a/b/x"}, []string{"x/a/b", "/a/b", "a/a/b", "a"}},
		{"a/", []string{"a/", "a//b", "x/a/", "a//"}, []string{"a", "a/b", "b/"}},
		{"//a", []string{"/a", "/a/b"}, []string{"a", "//a", "b/a", "x//a"}},
		{"//", []string{"/", "//", "//a"}, []string{"", "/a", "a/", "a"}},
		{"*", []string{"", "a", "/", "a/b", "/a", "\xff"}, nil},
		{"/*", []string{"", "a", "/", "a/b", "/a", "\n"}, nil},
		{"**", []string{"", "a", "/", "a/b"}, nil},
		{"/***", []string{"", "a", "/", "a/b"}, nil},
		{"?", []string{"a", "ab/c", "a/", "/a", "\x00"}, []string{"", "/", "ab", "//", "é"}},
		{"/?", []string{"a", "a/", "a/bc", "\x80"}, []string{"", "/", "/a", "ab/c"}},
		{"??", []string{"ab", "é", "a/bc"}, []string{"a", "a/b", "abc"}},
		{"a*", []string{"a", "ab", "a/b", "abc/d", "x/ab"}, []string{"", "ba", "b/ca"}},
		{"*a", []string{"a", "ba", "x/ba", "aba/x"}, []string{"ab", "a b", "ab/b"}},
		{"*.tmp", []string{".tmp", "x.tmp", "x.tmp.tmp", "d/x.tmp/y"}, []string{"tmp", "x.tmpy", ".tm/p"}},
		{"a*b*c", []string{"abc", "abbc", "aXbYc", "abcabc", "aacbbc"}, []string{"ab", "acb", "ab/c", "a/bc", "abcd"}},
		{"*/a", []string{"b/a", "/a", "x/b/a", "b/a/c"}, []string{"a", "ba", "b/ba", "a/b"}},
		{"/*/a", []string{"b/a", "/a", "b/a/c"}, []string{"a", "x/b/a", "//a"}},
		{"a/*/b", []string{"a/x/b", "a//b"}, []string{"a/b", "a/x/y/b"}},
		{"a/**/b", []string{"a/x/b", "a//b", "a/x/y/b"}, []string{"a/b", "ab"}},
		{"a**b", []string{"ab", "axb", "a/b", "ax/yb", "a/x/y/b", "z/a/b/c"}, []string{"a", "b/a", "ba/b", "a/bc"}},
		{"**/a", []string{"/a", "b/a", "c/b/a"}, []string{"a", "ba", "b/ba"}},
		{"/**/a", []string{"/a", "b/a", "c/b/a", "c/b/a/d"}, []string{"a", "ba", "b/ba"}},
		{"/**a", []string{"a", "ba", "b/a", "b/ca", "a/c"}, []string{"", "ab", "a b/b"}},
		{"a/**", []string{"a/", "a/b", "a/b/c", "x/a/b"}, []string{"a", "ab", "ba/b"}},
		{"***a", []string{"a", "x/y/ba"}, []string{"ab"}},
		{"a***b", []string{"ab", "a/b", "a/x/b"}, []string{"abc"}},
		{"*?", []string{"a", "abc", "/a"}, []string{"", "/"}},
		{"**?", []string{"a", "/a", "b/a"}, []string{"", "/", "//"}},
		{"[ab]*[!c]", []string{"ax", "bcx", "a/bd"}, []string{"a", "ac", "xa", "acc"}},
		{"]a-!(", []string{"]a-!(", "x/]a-!(/y"}, []string{"]a-!", "a"}},
		{"é", []string{"é", "x/é"}, []string{"É", "e"}},
		{"(?i)é.X", []string{"é.x", "é.X"}, []string{"É.x", "\xe3\xa9.x"}},
		{"(?i)aB/Cd", []string{"ab/cd", "AB/CD", "x/Ab/cD/y"}, []string{"abcd", "ab/c"}},
	} {
		matches(t, x.pattern, x.yes, x.no)
	}
}

// P7.3: of 160 bytes it may match, of more none does.
func TestMatchLong(t *testing.T) {
	for _, s := range []string{"*", "**", "/**", "a*", "/a*", "*a", "a", "**a", "[a-b]*"} {
		p := parsed(t, s)
		for _, part := range []string{"a", "a/"} {
			for _, n := range []int{1, 159, 160, 161, 162, 1000, 1 << 20} {
				path := strings.Repeat(part, n)[:n-1] + "a"
				want := n <= 160 && (strings.Contains(s, "*") || part == "a/" || n == 1)
				if got := p.Match(path); got != want {
					t.Errorf("%q matches %d bytes of %q: %t", s, n, part, got)
				}
			}
		}
	}
}

// R1: what could be tried in very many ways ends soon.
func TestMatchEnds(t *testing.T) {
	for _, star := range []string{"*a", "**a", "*?", "**[!b]"} {
		for _, head := range []string{"", "/"} {
			p := parsed(t, head+strings.Repeat(star, 20)+"b")
			if p.Match(strings.Repeat("a", 160)) || p.Match(strings.Repeat("a/", 80)) || !p.Match(strings.Repeat("a", 159)+"b") {
				t.Errorf("%q", p.Text())
			}
		}
	}
	full := parsed(t, strings.Repeat("*", 128))
	if !full.Match(strings.Repeat("/", 160)) || !full.Match("") {
		t.Error("of 128 stars")
	}
}

// piece is an element as it is written, and what it is of: made together, so that nothing has to be read.
type piece struct {
	text string
	many bool
	of   func(c byte) bool
}

const alphabet = "abcABC/-]![(\\*?~\x00\xff"

func swapped(c byte) byte {
	switch {
	case 'a' <= c && c <= 'z':
		return c - 32
	case 'A' <= c && c <= 'Z':
		return c + 32
	}
	return c
}

// written answers a byte as a class may have it, behind a \ where it must be, and sometimes where it need not.
func written(r *rand.Rand, c byte) string {
	if strings.IndexByte(`]\-!`, c) >= 0 || r.Intn(4) == 0 {
		return `\` + string([]byte{c})
	}
	return string([]byte{c})
}

func randomByte(r *rand.Rand) byte {
	for {
		if c := alphabet[r.Intn(len(alphabet))]; c != '/' {
			return c
		}
	}
}

func randomClass(r *rand.Rand, fold bool) piece {
	in, turned := [256]bool{}, r.Intn(2) == 0
	text := "["
	if turned {
		text += "!"
	}
	for range 1 + r.Intn(3) {
		low := randomByte(r)
		high := low
		text += written(r, low)
		if other := randomByte(r); other >= low && r.Intn(2) == 0 {
			high = other
			text += "-" + written(r, high)
		}
		for c := int(low); c <= int(high); c++ {
			in[c] = true
			if fold {
				in[swapped(byte(c))] = true
			}
		}
	}
	return piece{text + "]", false, func(c byte) bool { return c != '/' && in[c] != turned }}
}

func randomPiece(r *rand.Rand, fold bool) piece {
	c := alphabet[r.Intn(len(alphabet))]
	is := func(d byte) bool { return c == d || fold && c == swapped(d) }
	switch r.Intn(9) {
	case 0:
		return piece{"**", true, func(byte) bool { return true }}
	case 1, 2:
		return piece{"*", true, func(c byte) bool { return c != '/' }}
	case 3:
		return piece{"?", false, func(c byte) bool { return c != '/' }}
	case 4, 5:
		return randomClass(r, fold)
	}
	if c != '/' && (strings.IndexByte(`*?[\`, c) >= 0 || r.Intn(3) == 0) {
		return piece{`\` + string([]byte{c}), false, is}
	}
	return piece{string([]byte{c}), false, is}
}

// shapeOf answers the library's shape of a piece: bytes are the runes of their numbers.
func shapeOf(x piece) string {
	of := ""
	for _, c := range []byte(alphabet) {
		if x.of(c) {
			of += regexp.QuoteMeta(string(rune(c)))
		}
	}
	if of = strings.ReplaceAll(of, "-", `\-`); of == "" {
		of = `^\x{0}-\x{10ffff}`
	}
	if x.many {
		return "[" + of + "]*"
	}
	return "[" + of + "]"
}

func runesOf(s string) string {
	l := make([]rune, len(s))
	for i := range len(s) {
		l[i] = rune(s[i])
	}
	return string(l)
}

// randomPattern answers a pattern's text, whether it is rooted, and the shape of what its elements match.
func randomPattern(r *rand.Rand) (text string, rooted bool, shape *regexp.Regexp) {
	for {
		head := headed()[r.Intn(16)]
		body, of, stars := "", "", false
		for range 1 + r.Intn(6) {
			x := randomPiece(r, strings.Contains(head, "(?i)"))
			if stars && x.many {
				continue // would be read as another element with the one ahead of it
			}
			stars = x.many
			body += x.text
			of += shapeOf(x)
		}
		rooted = r.Intn(2) == 0
		if rooted {
			body = "/" + body
		} else if strings.IndexByte("/!(", body[0]) >= 0 {
			continue // would be read as what stands ahead of the elements
		}
		return head + body, rooted, regexp.MustCompile("^(?s:" + of + ")$")
	}
}

// whether tells by the words themselves whether what a shape matches is the whole of parts of a path.
func whether(shape *regexp.Regexp, rooted bool, path string) bool {
	parts := strings.Split(path, "/")
	for i := range parts {
		for j := i + 1; j <= len(parts); j++ {
			if shape.MatchString(runesOf(strings.Join(parts[i:j], "/"))) {
				return true
			}
		}
		if rooted {
			break
		}
	}
	return false
}

func randomPath(r *rand.Rand) string {
	b := make([]byte, r.Intn(9))
	for i := range b {
		b[i] = alphabet[r.Intn(len(alphabet))]
		if r.Intn(2) == 0 {
			b[i] = "aB/"[r.Intn(3)]
		}
	}
	return string(b)
}

// P7.3 against the words; P7.4: what is within what matches, and what stands ahead of it.
func TestMatchAgainstWords(t *testing.T) {
	r := rand.New(rand.NewSource(72))
	yes, no := 0, 0
	for range 4000 {
		text, rooted, shape := randomPattern(r)
		p := parsed(t, text)
		if p.Rooted() != rooted {
			t.Fatalf("%q: Rooted = %t", text, p.Rooted())
		}
		for range 25 {
			path := randomPath(r)
			want := whether(shape, rooted, path)
			if got := p.Match(path); got != want {
				t.Fatalf("%q matches %q: %t, not as %s", text, path, got, shape)
			}
			if !want {
				no++
				continue
			}
			yes++
			more := randomPath(r)
			if !p.Match(path + "/" + more) {
				t.Fatalf("%q matches %q, not %q", text, path, path+"/"+more)
			}
			if !rooted && !p.Match(more+"/"+path) {
				t.Fatalf("%q matches %q, not %q", text, path, more+"/"+path)
			}
		}
	}
	if yes < 5000 || no < 5000 {
		t.Errorf("%d match, %d do not", yes, no)
	}
}

// P7.4 at its bound: up to 160 bytes, and no more.
func TestWithinLong(t *testing.T) {
	for n := range 170 {
		more := strings.Repeat("x/", 90)[:n]
		path := "ab/" + more
		for s, ahead := range map[string]bool{"ab": true, "/ab": false, "a*": true, "(?d)!/[a]?": false} {
			p := parsed(t, s)
			if got := p.Match(path); got != (len(path) <= 160) {
				t.Errorf("%q matches %q: %t", s, path, got)
			}
			if got := p.Match(more + "/ab"); got != (len(path) <= 160 && ahead) {
				t.Errorf("%q matches %q: %t", s, more+"/ab", got)
			}
		}
	}
}

// P7.3: what the first marks say makes no difference, but (?i).
func TestMarksMakeNoDifference(t *testing.T) {
	r := rand.New(rand.NewSource(73))
	for range 300 {
		text, _, _ := randomPattern(r)
		body := text[len(regexp.MustCompile(`^(!|\(\?i\)|\(\?d\))*`).FindString(text)):]
		paths := []string{"a", "A", "a/B"}
		for range 10 {
			paths = append(paths, randomPath(r))
		}
		plain, folded := parsed(t, body), parsed(t, "(?i)"+body)
		for _, head := range headed() {
			p, as := parsed(t, head+body), plain
			if p.Folded() {
				as = folded
			}
			for _, path := range paths {
				if got := p.Match(path); got != as.Match(path) {
					t.Fatalf("%q matches %q: %t, %q not so", p.Text(), path, got, as.Text())
				}
			}
		}
	}
}

// P7.5: a text in which each byte stands behind a \ matches, rooted, that text, and of paths without it ahead none.
func TestPlain(t *testing.T) {
	r := rand.New(rand.NewSource(74))
	for range 2000 {
		b := make([]byte, 1+r.Intn(63))
		escaped := "/"
		for i := range b {
			b[i] = byte(r.Intn(256))
			if b[i] == '/' || i%3 == 0 {
				b[i] = randomByte(r)
			}
			escaped += `\` + string(b[i:i+1])
		}
		own := string(b)
		p := parsed(t, escaped)
		if !p.Match(own) || !p.Match(own+"/x") || p.Match(own+"x") || p.Match("x/"+own) || p.Match("/"+own) || p.Match(own[1:]) || p.Match(own[:len(own)-1]) {
			t.Fatalf("%q of %q", escaped, own)
		}
		at := r.Intn(len(b))
		b[at] ^= 1 << r.Intn(8)
		if p.Match(string(b)) || p.Match(string(b)+"/"+own) {
			t.Fatalf("%q matches %q", escaped, b)
		}
	}
}

// P7.6: whatever bytes come in; R6: what is answered hangs on nothing else.
func TestAnyBytes(t *testing.T) {
	r := rand.New(rand.NewSource(75))
	made := 0
	for range 30000 {
		b, path := make([]byte, r.Intn(140)>>r.Intn(6)), make([]byte, r.Intn(170)>>r.Intn(6))
		r.Read(b)
		r.Read(path)
		for i := range b {
			if r.Intn(3) > 0 {
				b[i] = alphabet[r.Intn(len(alphabet))]
			}
		}
		p, err := glob.Parse(string(b))
		if (p == nil) != (err != api.OK) {
			t.Fatalf("Parse(%q) = %v, %d", b, p, err)
		}
		if p != nil {
			made++
		}
		if first := p.Match(string(path)); first != p.Match(string(path)) || p != nil && p.Text() != string(b) {
			t.Fatalf("%q, %q", b, path)
		}
	}
	if made < 2000 {
		t.Errorf("only %d are patterns' texts", made)
	}
}

// R6: one pattern that is asked by several at a time answers each as if it were alone.
func TestMatchTogether(t *testing.T) {
	p := parsed(t, "(?i)a*[!b]/**c?")
	paths := []string{"ax/c1", "AX/y/cz", "ab/c1", "x/ax/y/z/Cc/d", "ax/c", ""}
	want := []bool{true, true, false, true, false, false}
	var all sync.WaitGroup
	for range 8 {
		all.Go(func() {
			for range 200 {
				got := make([]bool, len(paths))
				for i, path := range paths {
					got[i] = p.Match(path)
				}
				if !slices.Equal(got, want) {
					t.Errorf("%v, not %v", got, want)
					return
				}
			}
		})
	}
	all.Wait()
}
