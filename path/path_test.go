package path_test

import (
	"crypto/sha256"
	"encoding/hex"
	"fmt"
	"math"
	"regexp"
	"slices"
	"strings"
	"testing"

	"caravan/path"
)

// texts answers all texts of up to that many of those bytes.
func texts(most int, bytes string) []string {
	all := []string{""}
	for begin := 0; most > 0; most-- {
		end := len(all)
		for _, s := range all[begin:end] {
			for i := range len(bytes) {
				all = append(all, s+bytes[i:i+1])
			}
		}
		begin = end
	}
	return all
}

func a(n int) string { return strings.Repeat("a", n) }

// nested answers a text of n names of one byte.
func nested(n int) string { return strings.TrimSuffix(strings.Repeat("a/", n), "/") }

// notPaths are wrong in one way each.
var notPaths = []string{
	"", "/", "//", "/a", "a/", "a//b", "a/b/", "//a", "a//", "a/b//c",
	".", "..", "./a", "../a", "a/.", "a/..", "a/./b", "a/../b",
	"a\x00", "\x1f", "a/\n/b", "a/\x7f", "\x7f/a",
	a(49), a(49) + "/a", "a/" + a(49), "a/" + a(49) + "/a",
	nested(7), nested(8), nested(2000), "/" + nested(6), nested(6) + "/",
	a(48) + "/" + a(48) + "/" + a(14) + "/" + a(1), a(48) + "/" + a(48) + "/" + a(14) + "/" + a(48),
	a(48) + "/" + a(48) + "/" + a(13) + "/" + a(49), a(160), a(1 << 20), strings.Repeat("/", 1<<20), nested(1 << 19),
}

// isPaths stand at the edges.
var isPaths = []string{
	"a", " ", "~", "\x80", "\xff", "\xc3\xa9", "...", "..a", ".a", "a.", " .", ". ", "a b", "~t~", "-", "a\\b", "*",
	"a/b", "a/b c", ".../..a", "a/ ", nested(2), nested(5), nested(6),
	a(48), a(48) + "/" + a(48), a(48) + "/" + a(48) + "/" + a(13) + "/" + a(48), a(48) + "/" + a(48) + "/" + a(11) + "/a/" + a(48),
	a(48) + "/" + a(48) + "/" + a(7) + "/a/a/" + a(48), a(48) + "/" + a(48) + "/" + a(13) + "/a", a(20) + "/" + a(20) + "/" + a(20) + "/" + a(20) + "/" + a(20) + "/" + a(48),
}

// P2.1: Name, of each byte, at each place.
func TestNameOfEachByte(t *testing.T) {
	for c := range 256 {
		want := c >= 32 && c != 127 && c != '/'
		x := string([]byte{byte(c)})
		for _, s := range []string{x + "a", "a" + x, "a" + x + "a", a(47) + x, x + a(47), x + x + x} {
			if got := path.Name(s); got != (want && s != "..") {
				t.Errorf("Name(%q) = %t", s, got)
			}
		}
		if got := path.Name(x); got != (want && c != '.') {
			t.Errorf("Name(%q) = %t", x, got)
		}
	}
}

// P2.1: Name, by how many bytes there are, and of . and .. .
func TestNameOfEachLength(t *testing.T) {
	for n := range 200 {
		for _, c := range []string{"a", " ", "\xff"} {
			if got := path.Name(strings.Repeat(c, n)); got != (1 <= n && n <= 48) {
				t.Errorf("Name of %d of %q = %t", n, c, got)
			}
		}
		if got := path.Name(strings.Repeat(".", n)); got != (3 <= n && n <= 48) {
			t.Errorf("Name of %d dots = %t", n, got)
		}
	}
	if path.Name(a(1<<20)) || path.Name(strings.Repeat("é", 25)) || !path.Name(strings.Repeat("é", 24)) {
		t.Error("of many bytes")
	}
}

// P2.1: May.
func TestMay(t *testing.T) {
	for _, p := range notPaths {
		if path.May(p) {
			t.Errorf("May(%.200q)", p)
		}
	}
	for _, p := range isPaths {
		if !path.May(p) {
			t.Errorf("not May(%q)", p)
		}
	}
}

// P2.1: May, of all short texts, and by all lengths of two and of four names.
func TestMayOfEachText(t *testing.T) {
	shape := regexp.MustCompile(`^[^/]+(/[^/]+){0,5}$`)
	for _, p := range texts(7, "a/.") {
		want := shape.MatchString(p) && !strings.Contains("/"+p+"/", "/./") && !strings.Contains("/"+p+"/", "/../")
		if got := path.May(p); got != want {
			t.Errorf("May(%q) = %t", p, got)
		}
	}
	for i := range 50 {
		for j := range 50 {
			good := 1 <= i && i <= 48 && 1 <= j && j <= 48
			if got := path.May(a(i) + "/" + a(j)); got != good {
				t.Errorf("of %d and %d bytes: %t", i, j, got)
			}
			want := good && i+98 <= 111
			if got := path.May(a(48) + "/" + a(48) + "/" + a(i) + "/" + a(j)); got != want {
				t.Errorf("behind two of 48: of %d and %d bytes: %t", i, j, got)
			}
		}
	}
}

// P2.1: May, of each byte in each part.
func TestMayOfEachByte(t *testing.T) {
	for c := range 256 {
		want := c >= 32 && c != 127
		for _, form := range []string{"x#/y/z", "x/y#/z", "x/y/z#"} {
			p := strings.Replace(form, "#", string([]byte{byte(c)}), 1)
			if got := path.May(p); got != (want && !strings.Contains(p, "//") && !strings.HasSuffix(p, "/")) {
				t.Errorf("May(%q) = %t", p, got)
			}
		}
	}
}

// P2.1: Parts, and Join of them, which is the path of P2.5.
func TestParts(t *testing.T) {
	for _, p := range append(texts(6, "a/."), isPaths...) {
		l := path.Parts(p)
		if !path.May(p) {
			if len(l) != 0 {
				t.Errorf("Parts(%q) = %q", p, l)
			}
			continue
		}
		if want := strings.Split(p, "/"); !slices.Equal(l, want) {
			t.Errorf("Parts(%q) = %q, not %q", p, l, want)
		}
		if back, ok := path.Join(l); !ok || back != p {
			t.Errorf("Join(%q) = %q, %t", l, back, ok)
		}
	}
	for _, p := range notPaths {
		if l := path.Parts(p); len(l) != 0 {
			t.Errorf("Parts(%.200q) = %.200q", p, l)
		}
	}
}

// P2.1: Join, and Parts of what it tells.
func TestJoin(t *testing.T) {
	for _, l := range [][]string{
		{"a"}, {"a", "b"}, {"a", "b c", "..."}, {"a", "b", "c", "d", "e", "f"}, {a(48), a(48)}, {a(48), a(48), a(13), a(48)},
	} {
		handed := slices.Clone(l)
		p, ok := path.Join(handed)
		if !ok || p != strings.Join(l, "/") || !slices.Equal(path.Parts(p), l) {
			t.Errorf("Join(%q) = %q, %t", l, p, ok)
		}
		if !slices.Equal(handed, l) {
			t.Errorf("Join(%q) changed it", l)
		}
	}
	for _, l := range [][]string{
		nil, {}, {""}, {"", ""}, {"a", ""}, {"", "a"}, {"a", "", "b"}, {"."}, {"a", ".."}, {"a", "."}, {".", "a"},
		{"/"}, {"a/b"}, {"a/b", "c"}, {"c", "a/b"}, {"a/"}, {"/a"}, {"a\x7f"}, {"a", "\x1f"}, {a(49)}, {"a", a(49)}, {a(1 << 20)},
		{"a", "b", "c", "d", "e", "f", "g"}, {"a", "b", "c", "d", "e", "f", ""}, {"a/b", "c", "d", "e", "f"}, make([]string, 1000),
		slices.Repeat([]string{"a"}, 1000), {a(48), a(48), a(14), "a"}, {a(48), a(48), a(48), a(48)},
	} {
		if p, ok := path.Join(l); ok || p != "" {
			t.Errorf("Join(%.200q) = %q, %t", l, p, ok)
		}
	}
}

// P2.1: what Parts tells is new memory each time.
func TestPartsAreNew(t *testing.T) {
	l := path.Parts("a/b/c")
	l[0] = "x"
	_ = append(l[:1], "y")
	if again := path.Parts("a/b/c"); !slices.Equal(again, []string{"a", "b", "c"}) {
		t.Errorf("Parts(a/b/c) = %q", again)
	}
}

// P2.2: Parent and Base.
func TestParentAndBase(t *testing.T) {
	for _, x := range []struct{ path, parent, base string }{
		{"a", "", "a"}, {"a/b", "a", "b"}, {"a/b/c", "a/b", "c"}, {"a b/c.d", "a b", "c.d"}, {"a/b/c/d/e/f", "a/b/c/d/e", "f"},
		{a(48), "", a(48)}, {a(48) + "/" + a(48) + "/" + a(13) + "/b", a(48) + "/" + a(48) + "/" + a(13), "b"}, {".../~t~", "...", "~t~"},
	} {
		if got, ok := path.Parent(x.path); !ok || got != x.parent {
			t.Errorf("Parent(%q) = %q, %t", x.path, got, ok)
		}
		if got := path.Base(x.path); got != x.base {
			t.Errorf("Base(%q) = %q", x.path, got)
		}
	}
	for _, p := range notPaths {
		if got, ok := path.Parent(p); ok || got != "" {
			t.Errorf("Parent(%.200q) = %.200q, %t", p, got, ok)
		}
		if got := path.Base(p); got != "" {
			t.Errorf("Base(%.200q) = %.200q", p, got)
		}
	}
}

// P2.2: Parent and Base make up the path.
func TestParentAndBaseOfEachText(t *testing.T) {
	for _, p := range append(texts(6, "a/."), isPaths...) {
		parent, ok := path.Parent(p)
		base := path.Base(p)
		switch {
		case !path.May(p):
			if ok || parent != "" || base != "" {
				t.Errorf("of %q: %q, %t, %q", p, parent, ok, base)
			}
		case !ok || strings.Contains(base, "/") || strings.TrimPrefix(parent+"/"+base, "/") != p:
			t.Errorf("of %q: %q, %t, %q", p, parent, ok, base)
		case parent != "" && !path.May(parent):
			t.Errorf("of %q: %q is no path", p, parent)
		}
	}
}

// P2.2: Within.
func TestWithin(t *testing.T) {
	for _, x := range []struct {
		path, dir string
		want      bool
	}{
		{"a/b", "a", true}, {"ab", "a", false}, {"a", "a", false}, {"a", "", true}, {"a/b", "", true}, {"a/b/c", "a", true},
		{"a/b/c", "a/b", true}, {"a/b/c", "a/b/c", false}, {"a/b/c", "b", false}, {"a/b", "a/b/c", false}, {"a", "a/b", false},
		{"a/bc", "a/b", false}, {"a/b", "A", false}, {"b/a", "a", false}, {"a-b", "a", false}, {"a/a", "a/a", false},
		{"", "", false}, {"/a", "", false}, {"a/", "", false}, {".", "", false}, {"..", "", false}, {a(49), "", false}, {nested(7), "", false},
		{"a//b", "a", false}, {"a/", "a", false}, {"a/.", "a", false}, {"a/..", "a", false}, {"a/\x00", "a", false}, {"a/" + a(49), "a", false},
		{nested(7), "a", false}, {nested(6), nested(5), true}, {"a/b", "a/", false}, {"a/b", "/", false}, {"/a/b", "/a", false}, {"a//b", "a/", false},
		{"./a", ".", false}, {"../a", "..", false}, {"", "a", false}, {"a/b", "a/b/", false}, {a(48) + "/b", a(48), true}, {"a", a(1 << 20), false},
	} {
		if got := path.Within(x.path, x.dir); got != x.want {
			t.Errorf("Within(%.200q, %.200q) = %t", x.path, x.dir, got)
		}
	}
}

// P2.2: Within, of all pairs of short texts.
func TestWithinOfEachPair(t *testing.T) {
	all := texts(5, "a/.")
	for _, p := range all {
		for _, dir := range all {
			want := path.May(p) && (dir == "" || path.May(dir) && strings.Index(p, dir+"/") == 0)
			if got := path.Within(p, dir); got != want {
				t.Fatalf("Within(%q, %q) = %t", p, dir, got)
			}
		}
	}
}

// P2.3: Cmp.
func TestCmp(t *testing.T) {
	for _, x := range []struct {
		a, b string
		want int
	}{
		{"a", "a/b", -1}, {"a/b", "a b", -1}, {"a/b", "a-c", -1}, {"b", "a/z", 1}, {"", "", 0}, {"a", "a", 0}, {"a/b", "a/b", 0},
		{"", "/", -1}, {"", "\x00", -1}, {"/", "\x00", -1}, {"a/", "a\x00", -1}, {"a", "b", -1}, {"a", "aa", -1}, {"b", "aa", 1},
		{".", "/", 1}, {"0", "/", 1}, {"a.", "a/z", 1}, {"a0", "a/z", 1}, {"\xff", "/", 1}, {"\x7f", "\x80", -1}, {"a", "\xff", -1},
		{"a/b/c", "a/b", 1}, {"a//", "a/", 1}, {"Z", "a", -1}, {"a\x00", "a", 1}, {a(1 << 16), a(1<<16) + "/", -1}, {a(1<<16) + "b", a(1<<16) + "/", 1},
	} {
		if got := path.Cmp(x.a, x.b); got != x.want {
			t.Errorf("Cmp(%.100q, %.100q) = %d", x.a, x.b, got)
		}
		if got := path.Cmp(x.b, x.a); got != -x.want {
			t.Errorf("Cmp(%.100q, %.100q) = %d", x.b, x.a, got)
		}
	}
}

// rank is where each byte stands in the order of paths.
func rank(s string) []int {
	out := make([]int, len(s))
	for i := range len(s) {
		if s[i] != '/' {
			out[i] = 1 + int(s[i])
		}
	}
	return out
}

// P2.3: Cmp, of all pairs of short texts, and of all pairs of bytes.
func TestCmpOfEachPair(t *testing.T) {
	all := texts(4, "/a.\x00\xff")
	for c := range 256 {
		all = append(all, string([]byte{byte(c)}), string([]byte{'a', byte(c)}), string([]byte{byte(c), 'a'}))
	}
	for _, x := range all {
		for _, y := range all {
			if got, want := path.Cmp(x, y), slices.Compare(rank(x), rank(y)); got != want {
				t.Fatalf("Cmp(%q, %q) = %d", x, y, got)
			}
		}
	}
}

// P2.5: what lies within a directory stands behind it, ahead of everything else that stands behind it.
func TestWithinStandsTogether(t *testing.T) {
	all := slices.DeleteFunc(texts(6, "a/- "), func(p string) bool { return !path.May(p) })
	slices.SortFunc(all, path.Cmp)
	for i, dir := range all {
		inside := 0
		for _, p := range all {
			if path.Within(p, dir) {
				inside++
			}
		}
		for _, p := range all[i+1 : i+1+inside] {
			if !path.Within(p, dir) {
				t.Fatalf("%q stands behind %q, ahead of what lies within that", p, dir)
			}
		}
	}
}

func wantTemp(p string) string {
	parent, base := "", p
	if at := strings.LastIndex(p, "/"); at >= 0 {
		parent, base = p[:at+1], p[at+1:]
	}
	sum := sha256.Sum256([]byte(p))
	return parent + "~t~" + base[:min(12, len(base))] + hex.EncodeToString(sum[:4])
}

// P2.4: Temp.
func TestTemp(t *testing.T) {
	for p, want := range map[string]string{
		"a":                     "~t~aca978112",
		"~t~":                   "~t~~t~",
		"d/x":                   "d/~t~x",
		"d/notes.txt":           "d/~t~notes.txt",
		"d/notes-2.txt":         "d/~t~notes-2.txt",
		"d/e/12345678901.":      "d/e/~t~12345678901.",
		"d/e/123456789012":      "d/e/~t~123456789012",
		"d/e/1234567890123":     "d/e/~t~123456789012",
		"d/~t~x":                "d/~t~~t~x",
		"." + a(47):             "~t~." + a(11),
		"d/12345678901\xc3\xa9": "d/~t~12345678901\xc3",
	} {
		got, ok := path.Temp(p)
		if !ok || got != wantTemp(p) || !strings.HasPrefix(got, want) {
			t.Errorf("Temp(%q) = %q, %t", p, got, ok)
		}
	}
	if got, _ := path.Temp("d/x"); len(got) != 14 {
		t.Errorf("Temp(d/x) = %q, of %d bytes", got, len(got))
	}
	if x, _ := path.Temp("d/x"); x[2:] == "~t~x"+wantTemp("x")[4:] {
		t.Error("the digest is not that of the whole path")
	}
	for _, p := range notPaths {
		if got, ok := path.Temp(p); ok || got != "" {
			t.Errorf("Temp(%.200q) = %q, %t", p, got, ok)
		}
	}
}

// P2.4: IsTemp, of any texts.
func TestIsTemp(t *testing.T) {
	for s, want := range map[string]bool{
		"~t~": true, "~t~x": true, "a/~t~": true, "a/~t~x": true, "a/b/~t~x y": true, "/~t~": true, "//~t~": true, "~t~~t~": true,
		"~t~\x00": true, "~t~a/~t~b": true, "../~t~": true, "~t~" + a(1<<16): true, nested(9) + "/~t~": true,
		"": false, "~": false, "~t": false, "t~": false, "x~t~": false, " ~t~": false, "~T~": false, "~t~/": false, "~t~/x": false, "~t~x/y": false,
		"a/x~t~": false, "a~t~/b": false, "a": false, "/": false, "~/t~": false, "~t/~": false, "~~t~": false, "\x00~t~": false,
	} {
		if got := path.IsTemp(s); got != want {
			t.Errorf("IsTemp(%.200q) = %t", s, got)
		}
	}
}

// P2.4: Conflict.
func TestConflict(t *testing.T) {
	for _, x := range []struct {
		path string
		time int64
		by   int
		want string
	}{
		{"d/notes.txt", 77, 3, "d/notes.sync-conflict-0000000077-03.txt"},
		{".profile", 4294967295, 16, ".profile.sync-conflict-4294967295-16"},
		{"a", 0, 1, "a.sync-conflict-0000000000-01"},
		{"a", 1234567890, 10, "a.sync-conflict-1234567890-10"},
		{"a", 999999999, 9, "a.sync-conflict-0999999999-09"},
		{"a.", 1, 1, "a.sync-conflict-0000000001-01."},
		{"a..", 1, 1, "a..sync-conflict-0000000001-01."},
		{"...", 1, 1, "...sync-conflict-0000000001-01."},
		{"..a", 1, 1, "..sync-conflict-0000000001-01.a"},
		{"..profile", 1, 1, "..sync-conflict-0000000001-01.profile"},
		{".p.txt", 1, 1, ".p.sync-conflict-0000000001-01.txt"},
		{"x.tar.gz", 1, 1, "x.tar.sync-conflict-0000000001-01.gz"},
		{"x.gz.gz", 1, 1, "x.gz.sync-conflict-0000000001-01.gz"},
		{"x.1234567", 1, 1, "x.sync-conflict-0000000001-01.1234567"},
		{"x.12345678", 1, 1, "x.12345678.sync-conflict-0000000001-01"},
		{"x.a.12345678", 1, 1, "x.a.12345678.sync-conflict-0000000001-01"},
		{"d.e/x", 1, 1, "d.e/x.sync-conflict-0000000001-01"},
		{"d.e/.x", 1, 1, "d.e/.x.sync-conflict-0000000001-01"},
		{a(20), 1, 1, a(20) + ".sync-conflict-0000000001-01"},
		{a(21), 1, 1, a(20) + ".sync-conflict-0000000001-01"},
		{a(48), 1, 1, a(20) + ".sync-conflict-0000000001-01"},
		{a(16) + ".txt", 1, 1, a(16) + ".sync-conflict-0000000001-01.txt"},
		{a(17) + ".txt", 1, 1, a(16) + ".sync-conflict-0000000001-01.txt"},
		{a(44) + ".txt", 1, 1, a(16) + ".sync-conflict-0000000001-01.txt"},
		{a(40) + ".1234567", 1, 1, a(12) + ".sync-conflict-0000000001-01.1234567"},
		{a(39) + ".12345678", 1, 1, a(20) + ".sync-conflict-0000000001-01"},
		{"." + a(47), 1, 1, "." + a(19) + ".sync-conflict-0000000001-01"},
		{"d/~t~x.y", 1, 1, "d/~t~x.sync-conflict-0000000001-01.y"},
		{"d/a.sync-conflict-0000000077-03.txt", 78, 4, "d/a.sync-conflict-.sync-conflict-0000000078-04.txt"},
	} {
		if got, ok := path.Conflict(x.path, x.time, x.by); !ok || got != x.want {
			t.Errorf("Conflict(%q, %d, %d) = %q, %t, not %q", x.path, x.time, x.by, got, ok, x.want)
		}
	}
}

// P2.4: Conflict, of wrong arguments.
func TestConflictOfWrong(t *testing.T) {
	for _, p := range notPaths {
		if got, ok := path.Conflict(p, 1, 1); ok || got != "" {
			t.Errorf("Conflict(%.200q, 1, 1) = %q, %t", p, got, ok)
		}
	}
	for _, time := range []int64{-1, math.MinInt64, 1 << 32, 1<<32 + 1, math.MaxInt64} {
		if got, ok := path.Conflict("a", time, 1); ok || got != "" {
			t.Errorf("Conflict(a, %d, 1) = %q, %t", time, got, ok)
		}
	}
	for _, by := range []int{0, -1, 17, 99, 1<<32 + 1, math.MinInt, math.MaxInt} {
		if got, ok := path.Conflict("a", 1, by); ok || got != "" {
			t.Errorf("Conflict(a, 1, %d) = %q, %t", by, got, ok)
		}
	}
}

// P2.4: Conflict, of each device, and of times of each number of digits.
func TestConflictOfEachDevice(t *testing.T) {
	for by := 1; by <= 16; by++ {
		for time := int64(1); time < 1<<32; time *= 10 {
			want := fmt.Sprintf("d/x.sync-conflict-%010d-%02d.y", time, by)
			if got, ok := path.Conflict("d/x.y", time, by); !ok || got != want {
				t.Errorf("Conflict(d/x.y, %d, %d) = %q, %t", time, by, got, ok)
			}
		}
	}
}

const mark = ".sync-conflict-0123456789-42"

// P2.4: IsConflict, of any texts.
func TestIsConflict(t *testing.T) {
	for s, want := range map[string]bool{
		mark: true, "a" + mark: true, mark + ".txt": true, "a" + mark + ".txt": true, "d/a" + mark: true, "d/" + mark: true, "/" + mark: true,
		mark + mark: true, mark + "7": true, "a.sync-conflict-" + mark: true, ".sync-conflict-0123456789" + mark: true, "." + mark: true,
		a(1<<16) + mark + a(1<<16): true, "\x00" + mark + "\xff": true, "d" + mark + "/a" + mark: true, ".sync-conflict-0123456789-99": true,
		"":        false,
		"a":       false,
		mark[1:]:  false,
		mark[:27]: false, mark + "/": false, mark + "/a": false, "d" + mark + "/a": false,
		".sync-conflict-012345678-42": false, ".sync-conflict-01234567890-42": false, ".sync-conflict-0123456789-4": false, ".sync-conflict-0123456789-4x": false,
		".sync-conflict-0123456789.42": false, ".sync-conflict-012345678a-42": false, ".SYNC-conflict-0123456789-42": false, ".sync-conflict-##########-##": false,
		"-sync-conflict-0123456789-42": false, ".sync-conflict--123456789-42": false, ".sync-conflict-0123456789--2": false, ".sync-conflict-01234/6789-42": false,
		".sync-conflict-0123456789-": false, ".sync-conflict-": false, ".sync-conflict-0123456789- 4": false,
	} {
		if got := path.IsConflict(s); got != want {
			t.Errorf("IsConflict(%.200q) = %t", s, got)
		}
	}
}

// P2.4: IsConflict, with each byte at each place of the mark.
func TestIsConflictOfEachByte(t *testing.T) {
	shape := regexp.MustCompile(`^[^/]*\.sync-conflict-[0-9]{10}-[0-9]{2}[^/]*$`)
	for i := range len(mark) {
		for c := range 256 {
			s := "ab" + mark[:i] + string([]byte{byte(c)}) + mark[i+1:] + "yz"
			latin := []rune{}
			for j := range len(s) {
				latin = append(latin, rune(s[j]))
			}
			if got := path.IsConflict(s); got != shape.MatchString(string(latin)) {
				t.Errorf("IsConflict(%q) = %t", s, got)
			}
		}
	}
}

// P2.5: temp and conflict names are paths of the same parent, and what they are named.
func TestNamesBeside(t *testing.T) {
	for _, p := range append(texts(5, "a/.~"), isPaths...) {
		if !path.May(p) {
			continue
		}
		parent, _ := path.Parent(p)
		temp, ok := path.Temp(p)
		at, isPath := path.Parent(temp)
		if !ok || !isPath || at != parent || !path.IsTemp(temp) {
			t.Errorf("Temp(%q) = %q, %t", p, temp, ok)
		}
		conflict, ok := path.Conflict(p, 4294967295, 16)
		at, isPath = path.Parent(conflict)
		if !ok || !isPath || at != parent || !path.IsConflict(conflict) {
			t.Errorf("Conflict(%q) = %q, %t", p, conflict, ok)
		}
	}
}
