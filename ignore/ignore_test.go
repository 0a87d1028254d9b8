package ignore_test

import (
	"math/rand"
	"slices"
	"strconv"
	"strings"
	"sync"
	"testing"

	"caravan/api"
	"caravan/glob"
	"caravan/ignore"
	"caravan/path"
)

// filesOf answers files of names and texts in turn.
func filesOf(l ...string) []api.Text {
	var files []api.Text
	for i := 0; i+1 < len(l); i += 2 {
		files = append(files, api.Text{Name: l[i], Text: l[i+1]})
	}
	return files
}

func linesOf(l ...string) string { return strings.Join(l, "\n") }

// numbered answers n patterns, no two of them alike.
func numbered(head string, n int) []string {
	var l []string
	for i := range n {
		l = append(l, head+strconv.Itoa(i))
	}
	return l
}

// parsed answers the list of files that are one.
func parsed(t *testing.T, files []api.Text, name string) *ignore.List {
	t.Helper()
	l, err := ignore.Parse(files, name)
	if l == nil || err != api.OK {
		t.Fatalf("Parse(%.200q, %q) = %v, %d", files, name, l, err)
	}
	return l
}

// listOf answers the list of one file of these lines.
func listOf(t *testing.T, lines ...string) *ignore.List {
	t.Helper()
	return parsed(t, filesOf("i", linesOf(lines...)), "i")
}

func isNone(t *testing.T, files []api.Text, name string, want api.Errno) {
	t.Helper()
	if l, err := ignore.Parse(files, name); l != nil || err != want {
		t.Errorf("Parse(%.200q, %q) = %v, %d, not %d", files, name, l, err, want)
	}
}

// tells holds a list against the texts of its patterns.
func tells(t *testing.T, what string, l *ignore.List, want []string) {
	t.Helper()
	if got := l.Lines(); !slices.Equal(got, want) || l.Len() != len(want) {
		t.Errorf("%.200q: Lines = %q, Len = %d, not %q", what, got, l.Len(), want)
	}
}

func matches(t *testing.T, l *ignore.List, p string, ignored, deletable bool) {
	t.Helper()
	if i, d := l.Match(p); i != ignored || d != deletable {
		t.Errorf("%q: Match(%q) = %t, %t, not %t, %t", l.Lines(), p, i, d, ignored, deletable)
	}
}

// The chapter's examples.
func TestExamples(t *testing.T) {
	l := listOf(t, "// all", "!keep.tmp", "*.tmp")
	matches(t, l, "x.tmp", true, false)
	matches(t, l, "keep.tmp", false, false)
	matches(t, l, "d/keep.tmp", false, false)
	matches(t, l, "x", false, false)
	l = listOf(t, "(?d)cache")
	matches(t, l, "cache", true, true)
	matches(t, l, "a/cache/b", true, true)
	l = parsed(t, filesOf("i", "#include j\n!b", "j", "a\nb"), "i")
	tells(t, "i, j", l, []string{"a", "b", "!b"})
	matches(t, l, "b", true, false)
	isNone(t, filesOf("i", "#include i"), "i", api.ErrBusy)
	isNone(t, filesOf("i", "#include k"), "i", api.ErrNone)
	isNone(t, filesOf("i", "["), "i", api.ErrForm)
}

// P8.1: what of a text is a line, what of a line is left, and which lines are idle.
func TestLines(t *testing.T) {
	for _, x := range []struct {
		text string
		want []string
	}{
		{"", nil},
		{"\n", nil},
		{"\n\n \n\t\n \t \n", nil},
		{"a", []string{"a"}},
		{"a\n", []string{"a"}},
		{"\na", []string{"a"}},
		{"a\nb", []string{"a", "b"}},
		{"a\n\n\nb\n\n", []string{"a", "b"}},
		{"a\na\nb\na", []string{"a", "a", "b", "a"}},
		{"  a", []string{"a"}},
		{"a \t", []string{"a"}},
		{"\t a b\tc \t\n \tb", []string{"a b\tc", "b"}},
		{" a\n\tb\n", []string{"a", "b"}},
		{"a\r\nb\r", []string{"a\r", "b\r"}},
		{"\va\f\n\u00a0b\u00a0\n\x00\n\u2028", []string{"\va\f", "\u00a0b\u00a0", "\x00", "\u2028"}},
		{"a\rb\n\xff\xfe\né", []string{"a\rb", "\xff\xfe", "é"}},
		{"// a\n//\n//a\n///\n \t// b\n// #include k\n//[", nil},
		{"/\t/\n/a//\na//b\na //b\n!//\n?//\n/?/", []string{"/\t/", "/a//", "a//b", "a //b", "!//", "?//", "/?/"}},
		{"# a\n#\n##include i\n#includei\n#include\n#include \n#include\t\n#include\ti\n#Include i\n!#include i\na#include i\n# include i\n\\#include i\n/#include i",
			[]string{"# a", "#", "##include i", "#includei", "#include", "#include", "#include", "#include\ti", "#Include i", "!#include i", "a#include i", "# include i", "\\#include i", "/#include i"}},
		{"(?d)a\n!(?i)B\n(?d)(?i)! c\n/d\n[ ]\n\\ a", []string{"(?d)a", "!(?i)B", "(?d)(?i)! c", "/d", "[ ]", "\\ a"}},
	} {
		tells(t, x.text, parsed(t, filesOf("i", x.text), "i"), x.want)
	}
	// The blank at the end goes, though a \ stands ahead of it.
	isNone(t, filesOf("i", "a\\ "), "i", api.ErrForm)
	isNone(t, filesOf("i", " ! "), "i", api.ErrForm)
}

// P8.1: which file a line includes, and where what that one has stands.
func TestInclude(t *testing.T) {
	for _, x := range []struct {
		files []string
		want  []string
	}{
		{[]string{"i", "a\n#include j\nb", "j", "c\nd"}, []string{"a", "c", "d", "b"}},
		{[]string{"i", " \t#include j \t\nb", "j", ""}, []string{"b"}},
		{[]string{"j", "c", "i", "#include j"}, []string{"c"}},
		{[]string{"i", "#include j\n#include j\n#include j", "j", "c"}, []string{"c", "c", "c"}},
		{[]string{"i", "#include j\n#include k\n#include l", "j", "j\n#include l", "k", "#include l\nk", "l", "l"}, []string{"j", "l", "l", "k", "l"}},
		{[]string{"i", "#include j k", "j k", "a", "j", "b", "k", "c"}, []string{"a"}},
		{[]string{"i", "#include  j", " j", "a", "j", "b"}, []string{"a"}},
		{[]string{"i", "#include \tj", "\tj", "a", "j", "b"}, []string{"a"}},
		{[]string{"i", "#include // j", "// j", "a", "j", "b"}, []string{"a"}},
		{[]string{"i", "#include #include j", "#include j", "a", "j", "b"}, []string{"a"}},
		{[]string{"i", "#include J\n#include j/k\n#include \xff", "J", "a", "j", "b", "j/k", "c", "k", "d", "\xff", "e"}, []string{"a", "c", "e"}},
		// of several of one name the first one counts
		{[]string{"i", "#include j\nb", "i", "#include i", "j", "c", "j", "["}, []string{"c", "b"}},
		{[]string{"i", "", "i", "a"}, nil},
		{[]string{"i", "#include j", "j", "", "j", "a"}, nil},
		// what is not included is not read
		{[]string{"h", "[", "i", "a", "j", "#include j", "k", "#include x", "l", linesOf(numbered("p", 100)...)}, []string{"a"}},
	} {
		tells(t, x.files[1], parsed(t, filesOf(x.files...), "i"), x.want)
	}
}

// P8.1: any text is a name.
func TestNames(t *testing.T) {
	for _, name := range []string{"", " ", "i", "a b", " i", "i ", "\n", "a\nb", "/", "..", "\x00", "\xff", "//", "#include i", strings.Repeat("n", 1<<12)} {
		files := filesOf("other", "[", name, "a", name, "b")
		tells(t, name, parsed(t, files, name), []string{"a"})
		isNone(t, files, name+"x", api.ErrNone)
		isNone(t, files[:1], name, api.ErrNone)
		isNone(t, nil, name, api.ErrNone)
		if strings.Trim(name, " \t\n") != name || name == "" || strings.Contains(name, "\n") {
			continue
		}
		files = append(files, filesOf("from", "b\n#include "+name)...)
		tells(t, name, parsed(t, files, "from"), []string{"b", "a"})
		isNone(t, append(files, filesOf("to", "#include "+name+"x")...), "to", api.ErrNone)
	}
}

// chain answers n files 1, 2, .., each of which includes the one behind it; behind that, and its own pattern, the last one has what is told.
func chain(n int, last string) []api.Text {
	var files []api.Text
	for i := range n {
		text := "p" + strconv.Itoa(i+1) + "\n"
		if i+1 < n {
			text += "#include " + strconv.Itoa(i+2)
		} else {
			text += last
		}
		files = append(files, api.Text{Name: strconv.Itoa(i + 1), Text: text})
	}
	return files
}

// P8.1: files within one another, up to four.
func TestDeep(t *testing.T) {
	for n := 1; n <= 4; n++ {
		tells(t, strconv.Itoa(n), parsed(t, chain(n, ""), "1"), []string{"p1", "p2", "p3", "p4"}[:n])
		tells(t, strconv.Itoa(n), parsed(t, chain(5, ""), strconv.Itoa(6-n)), []string{"p2", "p3", "p4", "p5"}[4-n:])
	}
	for _, last := range []string{"", "[", "a", "#include 1", "#include x"} {
		for n := 5; n <= 8; n++ {
			isNone(t, chain(n, last), "1", api.ErrLong)
		}
	}
	// how many there are beside one another makes no difference
	many := linesOf("#include 1", "#include 2", "#include 3", "a", "#include 3", "#include 2", "#include 1")
	l := parsed(t, append(chain(3, ""), filesOf("i", many)...), "i")
	tells(t, many, l, []string{"p1", "p2", "p3", "p2", "p3", "p3", "a", "p3", "p2", "p3", "p1", "p2", "p3"})
	// nor that it was read already, where it was not too deep
	isNone(t, append(chain(4, ""), filesOf("i", "#include 2\n#include 1")...), "i", api.ErrLong)
	isNone(t, append(chain(4, ""), filesOf("i", "#include 1\n#include 2")...), "i", api.ErrLong)
	isNone(t, filesOf("i", "#include j\n#include k", "j", "#include l", "k", "#include j", "l", "#include m", "m", ""), "i", api.ErrLong)
	tells(t, "i to m", parsed(t, filesOf("i", "#include j\n#include k", "j", "#include l", "k", "#include l", "l", "#include m", "m", "m"), "i"), []string{"m", "m"})
}

// P8.1: a file that includes one that is being read, itself or one around it.
func TestBusy(t *testing.T) {
	for n := 1; n <= 4; n++ {
		for to := 1; to <= n; to++ {
			back := "#include " + strconv.Itoa(to)
			for _, last := range []string{back, back + "\n[", "// x\n\n\t" + back + "\n#include x", "a\n" + back + "\n" + back} {
				isNone(t, chain(n, last), "1", api.ErrBusy)
			}
		}
	}
	isNone(t, filesOf("i", "#include j\n#include j", "j", "#include k\n#include i", "k", ""), "i", api.ErrBusy)
	// what was read to its end is read no more
	tells(t, "i", parsed(t, filesOf("i", "#include j\n#include k", "j", "j", "k", "#include j"), "i"), []string{"j", "j"})
}

// P8.1: the first error that is found is the answer, whatever is wrong behind it.
func TestFirstError(t *testing.T) {
	long := strings.Repeat("a", 129)
	wrong := map[string]api.Errno{"[": api.ErrForm, "!": api.ErrForm, "#include x": api.ErrNone, "#include i": api.ErrBusy, "#include 1": api.ErrLong, long: api.ErrLong}
	for first, want := range wrong {
		for second := range wrong {
			both := linesOf("// a", "b", first, second)
			isNone(t, append(filesOf("i", both), chain(4, "")...), "i", want)
			isNone(t, append(filesOf("i", "#include j\n"+second, "j", first), chain(4, "")...), "i", want)
			isNone(t, append(filesOf("i", first+"\n#include j", "j", second), chain(4, "")...), "i", want)
			isNone(t, append(filesOf("i", "#include k\n#include j", "j", both, "k", "k"), chain(4, "")...), "i", want)
		}
	}
}

// P8.1: of one line that has several errors, the one that is named first.
func TestErrorsOfOneLine(t *testing.T) {
	isNone(t, chain(4, "#include x"), "1", api.ErrNone) // too deep, too
	isNone(t, chain(4, "#include 1"), "1", api.ErrBusy) // too deep, too
	isNone(t, chain(4, "#include 4"), "1", api.ErrBusy)
	isNone(t, append(chain(4, "#include x"), filesOf("x", "")...), "1", api.ErrLong)
	full := linesOf(numbered("p", 64)...)
	isNone(t, filesOf("i", full+"\n["), "i", api.ErrLong) // no pattern's text, too
	isNone(t, filesOf("i", full+"\n#include x"), "i", api.ErrNone)
	isNone(t, filesOf("i", full+"\n#include i"), "i", api.ErrBusy)
	isNone(t, filesOf("i", linesOf(numbered("p", 63)...)+"\n[\na"), "i", api.ErrForm)
}

// P8.1: a pattern has up to 128 bytes, without the blanks at its ends.
func TestLongLines(t *testing.T) {
	for n := 120; n < 140; n++ {
		text := strings.Repeat("a", n)
		for _, line := range []string{text, " " + text, text + "\t", strings.Repeat(" ", 200) + text} {
			if n <= 128 {
				tells(t, line, listOf(t, line), []string{text})
			} else {
				isNone(t, filesOf("i", line), "i", api.ErrLong)
			}
		}
		tells(t, text, listOf(t, "// "+text), nil)
		tells(t, text, parsed(t, filesOf("i", "#include "+text, text, "a"), "i"), []string{"a"})
	}
}

// P8.1: 64 patterns, wherever they stand, and not one more.
func TestManyPatterns(t *testing.T) {
	for _, n := range []int{0, 1, 63, 64, 65, 66, 100, 128, 1000} {
		for _, cut := range []int{0, 1, n / 2, n} {
			l := numbered("p", n)
			cut = min(cut, n)
			files := filesOf("i", linesOf(l[:cut]...)+"\n#include j\n// end", "j", "// j\n"+linesOf(l[cut:]...)+"\n\n")
			if n > 64 {
				isNone(t, files, "i", api.ErrLong)
			} else {
				tells(t, strconv.Itoa(n), parsed(t, files, "i"), l)
			}
		}
	}
	// a file counts as often as it is included
	for times := range 12 {
		for each := range 12 {
			files := filesOf("i", strings.Repeat("#include j\n", times), "j", linesOf(numbered("p", each)...))
			if times*each > 64 {
				isNone(t, files, "i", api.ErrLong)
			} else {
				tells(t, strconv.Itoa(times), parsed(t, files, "i"), slices.Repeat(numbered("p", each), times))
			}
		}
	}
	// what is no pattern may stand behind the 64th
	full := linesOf(numbered("p", 64)...)
	tells(t, "full", parsed(t, filesOf("i", full+"\n\n// a\n#include j\n \t\n#include j", "j", "// b"), "i"), numbered("p", 64))
	isNone(t, filesOf("i", "#include j\n"+full, "j", "a"), "i", api.ErrLong)
	isNone(t, filesOf("i", full+"\n#include j", "j", "a"), "i", api.ErrLong)
}

// R1: files that include others very often are read soon, whatever is in them.
func TestParseEnds(t *testing.T) {
	often := func(name string) string { return strings.Repeat("#include "+name+"\n", 4000) }
	files := func(last string) []api.Text {
		return filesOf("1", often("2"), "2", often("3"), "3", often("4"), "4", last)
	}
	tells(t, "idle", parsed(t, files(strings.Repeat("// idle\n", 4000)), "1"), nil)
	isNone(t, files("a"), "1", api.ErrLong)
	isNone(t, files(often("5")), "1", api.ErrNone)
	isNone(t, files("//\n#include 2"), "1", api.ErrBusy)
	isNone(t, append(files(often("5")), filesOf("5", "")...), "1", api.ErrLong)
	l := parsed(t, append(files(""), filesOf("0", "a\n#include 2\nb\n#include 2\n#include 3")...), "0")
	tells(t, "0", l, []string{"a", "b"})
	isNone(t, append(files(""), filesOf("0", "#include 4\n#include 3\n#include 2\n#include 1")...), "0", api.ErrLong)
}

// P8.2: the first pattern that matches says whether a path is ignored, and deletable.
func TestMatch(t *testing.T) {
	for _, x := range []struct {
		lines                   []string
		deletable, ignored, not []string
	}{
		{nil, nil, nil, []string{"a", "a/b"}},
		{[]string{"a"}, nil, []string{"a", "b/a", "b/a/c"}, []string{"b", "ab", "b/ab"}},
		{[]string{"!a"}, nil, nil, []string{"a", "b"}},
		{[]string{"!a", "*"}, nil, []string{"b", "b/c"}, []string{"a", "a/b", "b/a"}},
		{[]string{"*", "!a"}, nil, []string{"a", "b"}, nil},
		{[]string{"(?d)a"}, []string{"a", "b/a/c"}, nil, []string{"b"}},
		{[]string{"!(?d)a", "(?d)*"}, []string{"b"}, nil, []string{"a"}},
		{[]string{"a", "(?d)a"}, nil, []string{"a"}, []string{"b"}},
		{[]string{"(?d)a", "a", "!a"}, []string{"a"}, nil, []string{"b"}},
		{[]string{"(?d)!a", "(?d)a"}, nil, nil, []string{"a"}},
		{[]string{"/a", "(?d)a"}, []string{"b/a"}, []string{"a", "a/b"}, []string{"b"}},
		{[]string{"(?i)x.TMP", "!x.*", "(?d)**"}, []string{"y", "y.x"}, []string{"X.tmp", "d/x.Tmp"}, []string{"x.b", "d/x."}},
		{[]string{"!/a/keep", "/a"}, nil, []string{"a", "a/b", "a/b/keep"}, []string{"a/keep", "a/keep/b", "b/a"}},
	} {
		l := listOf(t, x.lines...)
		for range 2 {
			for _, p := range x.deletable {
				matches(t, l, p, true, true)
			}
			for _, p := range x.ignored {
				matches(t, l, p, true, false)
			}
			for _, p := range x.not {
				matches(t, l, p, false, false)
			}
		}
	}
}

// P8.2: what is no path is not ignored, though the pattern matches it.
func TestMatchNoPath(t *testing.T) {
	part := strings.Repeat("p", 48)
	l := listOf(t, "(?d)**")
	for _, p := range []string{"", "/", "/a", "a/", "a//b", ".", "..", "a/..", "./a", "a\x00", "a\n", "\x7f", "a/b/c/d/e/f/g", part + "p", part + "/" + part + "/" + part + "/a", strings.Repeat("a/", 80), strings.Repeat("a", 161), strings.Repeat("a", 1<<20)} {
		if path.May(p) {
			t.Fatalf("%q", p)
		}
		matches(t, l, p, false, false)
	}
	for _, p := range []string{"a", "a/b/c/d/e/f", part, part + "/" + part + "/ppppppppppppp/" + part, "é", "\xff", "...", "~t~a", " "} {
		if !path.May(p) {
			t.Fatalf("%q", p)
		}
		matches(t, l, p, true, true)
	}
}

// P8.2: of nil, and of a list that Parse did not make.
func TestOfNone(t *testing.T) {
	for _, l := range []*ignore.List{nil, {}, new(ignore.List)} {
		tells(t, "none", l, nil)
		for _, p := range []string{"", "a", "a/b", strings.Repeat("a", 161)} {
			matches(t, l, p, false, false)
		}
	}
}

// R4, R6: what is handed in is left as it is, and what becomes of it, or of an answer, makes no difference.
func TestNewMemory(t *testing.T) {
	files := filesOf("i", "a\n#include j", "j", "(?d)b")
	was := slices.Clone(files)
	l := parsed(t, files, "i")
	if !slices.Equal(files, was) {
		t.Errorf("%q", files)
	}
	clear(files)
	lines := l.Lines()
	clear(lines)
	tells(t, "i", l, []string{"a", "(?d)b"})
	matches(t, l, "a", true, false)
	matches(t, l, "b", true, true)
	other := parsed(t, was, "j")
	tells(t, "j", other, []string{"(?d)b"})
	tells(t, "i", l, []string{"a", "(?d)b"})
}

// found is what a reader by the chapter's words has found so far.
type found struct {
	files    []api.Text
	patterns []*glob.Pattern
}

// read goes through a file and all that it includes, as often as they are, just as the words say it.
func (f *found) read(name string, around []string) api.Errno {
	i := slices.IndexFunc(f.files, func(x api.Text) bool { return x.Name == name })
	if i < 0 {
		return api.ErrNone
	}
	if slices.Contains(around, name) {
		return api.ErrBusy
	}
	if len(around) >= 4 {
		return api.ErrLong
	}
	around = append(slices.Clone(around), name)
	for _, line := range strings.Split(f.files[i].Text, "\n") {
		for strings.HasPrefix(line, " ") || strings.HasPrefix(line, "\t") {
			line = line[1:]
		}
		for strings.HasSuffix(line, " ") || strings.HasSuffix(line, "\t") {
			line = line[:len(line)-1]
		}
		err := api.OK
		if len(line) > 9 && line[:9] == "#include " {
			err = f.read(line[9:], around)
		} else if line != "" && (len(line) < 2 || line[:2] != "//") {
			err = f.add(line)
		}
		if err != api.OK {
			return err
		}
	}
	return api.OK
}

func (f *found) add(line string) api.Errno {
	if len(f.patterns) >= 64 {
		return api.ErrLong
	}
	p, err := glob.Parse(line)
	if err == api.OK {
		f.patterns = append(f.patterns, p)
	}
	return err
}

func (f *found) lines() []string {
	var l []string
	for _, p := range f.patterns {
		l = append(l, p.Text())
	}
	return l
}

func (f *found) match(p string) (ignored, deletable bool) {
	for _, g := range f.patterns {
		if path.May(p) && g.Match(p) {
			return !g.Negated(), !g.Negated() && g.Deletable()
		}
	}
	return false, false
}

func one(r *rand.Rand, l ...string) string { return l[r.Intn(len(l))] }

func randomLine(r *rand.Rand, names []string) string {
	switch n := r.Intn(100); {
	case n < 8:
		return one(r, "", " ", "\t", "//", "// a", "//[", " \t//x")
	case n < 42:
		return one(r, "", "", "", " ", "\t") + "#include " + one(r, names...) + one(r, "", "", "", " ", "\t ")
	case n < 43:
		return one(r, "[", "!", "!!a", "#include x", "#include  a", strings.Repeat("*", 129))
	}
	return one(r, "", "", "!") + one(r, "", "", "(?d)") + one(r, "", "", "(?i)") + one(r, "", "/") + one(r, "a", "b", "a*", "*b", "?", "[ab]", "a/b", "**c", "#include", "A", "a b") + one(r, "", "", " ")
}

// randomFiles are files that sometimes include those ahead of them, and mostly those behind.
func randomFiles(r *rand.Rand) []api.Text {
	names := []string{"a", "b", "c d", "e", "f", "g", "h"}[:1+r.Intn(7)]
	var files []api.Text
	most := 1 << r.Intn(6)
	for i, name := range names {
		var lines []string
		to := names[i+1:]
		if len(to) == 0 || r.Intn(12) == 0 {
			to = names[r.Intn(len(names)):]
		}
		for range r.Intn(most) {
			line := randomLine(r, to)
			if i == len(names)-1 && strings.Contains(line, "#include ") && r.Intn(8) > 0 {
				continue
			}
			lines = append(lines, line)
		}
		files = append(files, api.Text{Name: name, Text: linesOf(lines...)})
	}
	if r.Intn(4) == 0 {
		files = append(files, api.Text{Name: one(r, names...), Text: one(r, "[", "x", "#include b")})
	}
	return files
}

func randomPath(r *rand.Rand) string {
	var l []string
	for range 1 + r.Intn(4) {
		l = append(l, one(r, "a", "b", "A", "ab", "xb", "c", "zc", "x", "a b", "#include", "y", ""))
	}
	return strings.Join(l, "/")
}

// P8.1, P8.2 against the words.
func TestAgainstWords(t *testing.T) {
	r := rand.New(rand.NewSource(81))
	count := map[api.Errno]int{}
	great := 0
	for range 40000 {
		files := randomFiles(r)
		f := &found{files: files}
		want := f.read("a", nil)
		count[want]++
		if want != api.OK {
			isNone(t, files, "a", want)
			continue
		}
		l := parsed(t, files, "a")
		if len(f.patterns) > 20 {
			great++
		}
		tells(t, files[0].Text, l, f.lines())
		for range 10 {
			p := randomPath(r)
			ignored, deletable := f.match(p)
			matches(t, l, p, ignored, deletable)
		}
		if t.Failed() {
			t.Fatalf("%q", files)
		}
	}
	for _, e := range []api.Errno{api.OK, api.ErrLong, api.ErrForm, api.ErrNone, api.ErrBusy} {
		if count[e] < 400 {
			t.Errorf("%d: only %d times", e, count[e])
		}
	}
	if great < 200 {
		t.Errorf("only %d great lists", great)
	}
}

// P8.3: of a list's lines; of patterns behind others; of what lies within.
func TestWhatFollows(t *testing.T) {
	r := rand.New(rand.NewSource(82))
	ignoredAll := 0
	for range 4000 {
		files := randomFiles(r)
		l, err := ignore.Parse(files, "a")
		if err != api.OK {
			continue
		}
		again := listOf(t, l.Lines()...)
		tells(t, files[0].Text, again, l.Lines())
		more := l
		if l.Len() < 64 {
			more = listOf(t, append(l.Lines(), one(r, "*", "!*", "(?d)**", "!a"))...)
		}
		patterns := l.Lines()
		for range 20 {
			p := randomPath(r)
			ignored, deletable := l.Match(p)
			matches(t, again, p, ignored, deletable)
			first := slices.IndexFunc(patterns, func(s string) bool {
				g, _ := glob.Parse(s)
				return g.Match(p)
			})
			if first < 0 || !path.May(p) {
				continue
			}
			matches(t, more, p, ignored, deletable)
			matches(t, listOf(t, patterns[:first+1]...), p, ignored, deletable)
			if in := p + "/" + one(r, "q", "q/w", "Q w"); path.May(in) {
				matches(t, listOf(t, patterns[first]), in, ignored, deletable)
			}
			if ignored {
				ignoredAll++
			}
		}
	}
	if ignoredAll < 4000 {
		t.Errorf("only %d are ignored", ignoredAll)
	}
}

// R1: whatever bytes come in.
func TestAnyBytes(t *testing.T) {
	r := rand.New(rand.NewSource(83))
	made := 0
	for range 20000 {
		var files []api.Text
		for range r.Intn(4) {
			b := make([]byte, r.Intn(60))
			r.Read(b)
			for i := range b {
				if r.Intn(3) > 0 {
					b[i] = "\n \t/#!ab*"[r.Intn(9)]
				}
			}
			text := string(b)
			if r.Intn(3) == 0 {
				text += "\n#include " + one(r, "a", "b", "", "\n", " a", "\xff")
			}
			files = append(files, api.Text{Name: one(r, "a", "b", "", " a", "\xff"), Text: text})
		}
		f := &found{files: files}
		name := one(r, "a", "b", "", " a", "\xff")
		want := f.read(name, nil)
		l, err := ignore.Parse(files, name)
		if err != want || (l == nil) != (err != api.OK) {
			t.Fatalf("Parse(%q, %q) = %v, %d, not %d", files, name, l, err, want)
		}
		if l != nil {
			made++
			tells(t, name, l, f.lines())
		}
	}
	if made < 1000 {
		t.Errorf("only %d are lists", made)
	}
}

// R6: one list that is asked by several at a time answers each as if it were alone.
func TestMatchTogether(t *testing.T) {
	l := listOf(t, "!(?i)keep*", "(?d)*.tmp", "/d")
	var all sync.WaitGroup
	for range 8 {
		all.Go(func() {
			for range 200 {
				matches(t, l, "x/KEEP.tmp", false, false)
				matches(t, l, "x/y.tmp/z", true, true)
				matches(t, l, "d/z", true, false)
				matches(t, l, "z/d", false, false)
				tells(t, "together", l, []string{"!(?i)keep*", "(?d)*.tmp", "/d"})
			}
		})
	}
	all.Wait()
}
