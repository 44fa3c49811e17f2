package tests

import (
	"path"
	"regexp"
	"slices"
	"strconv"
	"strings"
	"testing"

	"loop.example/g00299/impl"
)

var lettersBehindSlashes = regexp.MustCompile(`^(/[a-z]+)+$`)

// pathFaultByLibrary works a path's fault out apart from the program.
func pathFaultByLibrary(text string) int64 {
	if !lettersBehindSlashes.MatchString(text) {
		return impl.ErrText
	}
	names := strings.Split(text[1:], "/")
	if len(names) > 3 || slices.ContainsFunc(names, func(name string) bool { return len(name) > 4 }) {
		return impl.ErrMany
	}
	return impl.OK
}

// normByLibrary: path.Clean of a text without `/` ahead leaves a `..` at the beginning just where there is nothing ahead of it.
func normByLibrary(text string) impl.TextResult {
	if len(text) > 40 {
		return impl.TextResult{Code: impl.ErrMany}
	}
	clean := path.Clean(strings.TrimLeft(text, "/"))
	switch {
	case clean == ".." || strings.HasPrefix(clean, "../"):
		return impl.TextResult{Code: impl.ErrText}
	case clean == ".":
		return impl.TextResult{Code: impl.ErrNone}
	}
	if code := pathFaultByLibrary("/" + clean); code != impl.OK {
		return impl.TextResult{Code: code}
	}
	return impl.TextResult{Text: "/" + clean}
}

// textsOver: all texts of up to most pieces out of these, with the same text between them.
func textsOver(pieces []string, between string, most int) []string {
	texts := slices.Clone(pieces)
	last := pieces
	for range most - 1 {
		var longer []string
		for _, text := range last {
			for _, piece := range pieces {
				longer = append(longer, text+between+piece)
			}
		}
		texts = append(texts, longer...)
		last = longer
	}
	return texts
}

// rightPaths: paths of one to MaxDepth names, among them those of MaxName bytes, those of a and of z, and those that begin with another one.
func rightPaths() []string {
	return textsOver([]string{"/a", "/b", "/z", "/aa", "/ab", "/az", "/abcd", "/zzzz", "/mnp"}, "", impl.MaxDepth)
}

// faultyPath: a text that is no path, and the code of the first fault in the document's order.
type faultyPath struct {
	path string
	code int64
}

func faultyPaths() []faultyPath {
	long := strings.Repeat("a", 1<<16)
	var list []faultyPath
	for _, text := range []string{
		"", "/", "//", "///", "a", "abcd", "a/", "a/b", "a/b/c/d", "abcde", ".", "..", " ", " /a", "\x00/a", "\\a",
		"//a", "/a/", "/a//", "/a//b", "/a/b/", "/a/b/c/", "/a/b//c", "//a/b/c", "/a/b/c//",
		"/.", "/..", "/a/.", "/a/..", "/a/./b", "/a/../b", "/...", "/a.b", "/.a", "/a.",
		"/A", "/Z", "/`", "/{", "/@", "/[", "/0", "/9", "/_", "/-", "/ ", "/a ", "/ a", "/a b", "/a\n", "/a\x00", "/\x7f", "/\x80", "/\xff",
		"/\xe1", "/\u00e9", "/\u0430", "/\uff41", "/a\u0301", "\uff0fa", "/a/B", "/B/a", "/a/b/C", "/a/b/cdeF",
		"/abcde/", "/abcde//a", "/abcde/A", "/A/abcde", "/abcdE", "/abcdefG", "/Abcde", "abcde/a",
		"/a/b/c/d/", "/a/b/c/d/E", "/a/b/c/D", "/a/b/c//d", "/a/b/c/d/..", "/A/b/c/d", "/a/b/c/d/e/f/g/h/1", "//a/b/c/d",
		long, "/" + long + "A", "/" + long + "/", strings.Repeat("/a", 1<<15) + "/", strings.Repeat("/", 1<<16), strings.Repeat("/a", 1<<15) + "/.",
	} {
		list = append(list, faultyPath{text, impl.ErrText})
	}
	for _, text := range []string{
		"/abcde", "/zzzzz", "/abcdefgh", "/a/abcde", "/abcde/a", "/a/b/abcde", "/a/abcde/c", "/abcde/b/c", "/abcde/abcde/abcde", "/abcde/b/abcd",
		"/a/b/c/d", "/a/b/c/d/e", "/abcd/abcd/abcd/abcd", "/a/a/a/a", "/a/b/c/abcde", "/abcde/b/c/d",
		"/" + long, "/a/" + long, strings.Repeat("/a", 1<<15), "/" + strings.Repeat("a", 256+1), strings.Repeat("/a", 256+1), "/" + strings.Repeat("a", 260),
	} {
		list = append(list, faultyPath{text, impl.ErrMany})
	}
	return list
}

// shortText: what a failing test tells of a text that may be long, or no text at all.
func shortText(text string) string {
	return strconv.Quote(text[:min(40, len(text))])
}

func TestPathBounds(t *testing.T) {
	if impl.MaxName != 4 || impl.MaxDepth != 3 {
		t.Errorf("MaxName %d, MaxDepth %d", impl.MaxName, impl.MaxDepth)
	}
}

func TestRightPathsHaveNoFault(t *testing.T) {
	for _, path := range rightPaths() {
		if code := impl.PathFault(path); code != impl.OK {
			t.Errorf("PathFault of %q: %d", path, code)
		}
	}
}

func TestPathFault(t *testing.T) {
	for _, f := range faultyPaths() {
		if code := impl.PathFault(f.path); code != f.code {
			t.Errorf("PathFault of %.40q: %d, not %d", f.path, code, f.code)
		}
	}
}

func TestNamesByLengthAndNumber(t *testing.T) {
	for depth := 1; depth <= 6; depth++ {
		for length := 1; length <= 8; length++ {
			for at := range depth {
				names := slices.Repeat([]string{"a"}, depth)
				names[at] = strings.Repeat("z", length)
				path := "/" + strings.Join(names, "/")
				want := int64(impl.OK)
				if depth > 3 || length > 4 {
					want = impl.ErrMany
				}
				if code := impl.PathFault(path); code != want {
					t.Errorf("PathFault of %s: %d, not %d", path, code, want)
				}
			}
		}
	}
}

func TestPathFaultByteByByte(t *testing.T) {
	for _, path := range []string{"/a", "/abcd", "/ab/cd", "/a/b/c", "/a/b/cdef", "/abcde", "/a/b/c/d", "/abcdefgh/ij"} {
		for at := range path {
			for b := range 256 {
				text := []byte(path)
				text[at] = byte(b)
				if code, want := impl.PathFault(string(text)), pathFaultByLibrary(string(text)); code != want {
					t.Fatalf("PathFault of %q: %d, not %d", text, code, want)
				}
			}
		}
	}
}

func TestPathFaultOfAllShortTexts(t *testing.T) {
	for _, text := range textsOver([]string{"/", "a", "z", ".", "{"}, "", 7) {
		if code, want := impl.PathFault(text), pathFaultByLibrary(text); code != want {
			t.Fatalf("PathFault of %q: %d, not %d", text, code, want)
		}
	}
	for _, text := range textsOver([]string{"/", "a"}, "", 14) {
		if code, want := impl.PathFault(text), pathFaultByLibrary(text); code != want {
			t.Fatalf("PathFault of %q: %d, not %d", text, code, want)
		}
	}
}

func TestNormPathKnown(t *testing.T) {
	known := []struct {
		text string
		path string
	}{
		{"a/./b//../c", "/a/c"},
		{"a", "/a"}, {"/a", "/a"}, {"//a", "/a"}, {"a/", "/a"}, {"a//", "/a"}, {"/a/", "/a"}, {"//a//", "/a"}, {"abcd", "/abcd"}, {"z", "/z"},
		{"a/b", "/a/b"}, {"/a//b", "/a/b"}, {"a///b/", "/a/b"}, {"/a/b/c", "/a/b/c"}, {"abcd/efgh/wxyz", "/abcd/efgh/wxyz"},
		{"./a", "/a"}, {"/./a", "/a"}, {"a/.", "/a"}, {"a/./", "/a"}, {"./././a/./.", "/a"}, {"a/./b", "/a/b"}, {".//./a", "/a"},
		{"a/../b", "/b"}, {"/a/../b", "/b"}, {"a/b/..", "/a"}, {"a/b/../", "/a"}, {"a/b/../..//c", "/c"}, {"a/b/c/../../..//d", "/d"},
		{"a//../b", "/b"}, {"a/./../b", "/b"}, {"a/././//../b", "/b"}, {"a/../b/../c", "/c"}, {"a/b/./../c/..", "/a"}, {"a/a/..", "/a"},
		{"a/b/c/d/..", "/a/b/c"}, {"a/b/c/d/e/../..", "/a/b/c"}, {"a/b/../c/d", "/a/c/d"}, {"a/../b/c/d", "/b/c/d"},
		{"abcde/../a", "/a"}, {"a/abcde/..", "/a"}, {"A/../a", "/a"}, {"a/B!/..", "/a"}, {"\x00/../a", "/a"}, {"\xff/../a", "/a"}, {"\u00e9/../a", "/a"},
		{".../../a", "/a"}, {"..../../a", "/a"}, {"a/.../..", "/a"}, {".a/../a", "/a"}, {"..a/../a", "/a"}, {"a../../a", "/a"}, {" /../a", "/a"},
		{strings.Repeat("/", 39) + "a", "/a"}, {"a" + strings.Repeat("/", 39), "/a"}, {strings.Repeat("./", 19) + "ab", "/ab"},
		{strings.Repeat("a/../", 7) + "abcd", "/abcd"}, {strings.Repeat("a/", 10) + strings.Repeat("../", 6) + "..", "/a/a/a"},
		{strings.Repeat("a", 35) + "/../b", "/b"},
	}
	for _, k := range known {
		if got := impl.NormPath(k.text); got != (impl.TextResult{Text: k.path}) {
			t.Errorf("NormPath of %q: %v, not %s", k.text, got, k.path)
		}
	}
}

func TestNormPathOfWrongTexts(t *testing.T) {
	wrong := []struct {
		code  int64
		texts []string
	}{
		{impl.ErrNone, []string{
			"", "/", "//", "///", ".", "./", "/.", "/./", "././.", ".//.", "a/..", "/a/..", "/a/../", "a/b/../..", "a/../b/..", "./a/.././",
			"abcde/..", "A/..", ".../..", "a/b/c/d/../../../..", strings.Repeat("/", 40), strings.Repeat("./", 20), strings.Repeat("a", 36) + "/../",
		}},
		{impl.ErrText, []string{
			"..", "/..", "../", "/../", "../a", "/../a", "//../a", "./../a", "/./../a", "a/../..", "a/../../b", "a/b/../../..", "a/b/../../../c", "../..",
			"../A", "a/../../A", "../abcde", "../a/b/c/d", ".../../..", "a/./.././..", strings.Repeat("/", 38) + "..", "../" + strings.Repeat("a", 37),
			"...", "a/...", ".../a", "....", ".a", "..a", "a.", "a..", "a.b", "..a/..b", "/.../", "a/.b", "a/b..", ". ", " .", ".. ", " ..", "a/.. ", "a\\..",
			"A", "a/B", "B/../A", "a b", "a\n", "\x00", "a\x00", "`", "{", "@", "[", "0", "a-b", "\xff", "\u00e9", "\uff0fa", "a/\u00e9/b",
			"abcdE", "abcde/A", "A/abcde", "a/b/c/D", "a/b/c/d/E", "a/b/c/d/...", strings.Repeat("A", 40), strings.Repeat("\u00e9", 20), strings.Repeat("...a", 10),
		}},
		{impl.ErrMany, []string{
			"abcde", "/abcde", "a/abcde", "abcde/a", "./abcde/.", "a/../abcde", "a/b/c/d", "/a/b/c/d", "a//b/./c/d/", "a/b/c/d/e/..", "a/b/../b/c/d",
			"abcde/b/c/d", strings.Repeat("a", 40), "/" + strings.Repeat("a", 39), strings.Repeat("a/", 20), strings.Repeat("/a", 20),
			strings.Repeat("/", 41), strings.Repeat("a", 41), strings.Repeat("A", 41), strings.Repeat(".", 41), "a" + strings.Repeat("/", 40), strings.Repeat("/", 40) + "a",
			strings.Repeat("/", 39) + "..", "../" + strings.Repeat("a", 38), "../" + strings.Repeat("/", 38), "/" + strings.Repeat("./", 20), "a" + strings.Repeat("\u00e9", 20),
			strings.Repeat("\u20ac", 14), strings.Repeat("a/../", 8) + "a", strings.Repeat("/", 256), strings.Repeat("/", 256) + "a", strings.Repeat("../", 1<<14),
			"a" + strings.Repeat("/", 1<<16), strings.Repeat("/", 1<<16) + "a",
		}},
	}
	for _, w := range wrong {
		for _, text := range w.texts {
			if got := impl.NormPath(text); got != (impl.TextResult{Code: w.code}) {
				t.Errorf("NormPath of %.50q: %v, not %d", text, got, w.code)
			}
		}
	}
}

func TestNormPathByLength(t *testing.T) {
	for n := range 60 {
		fill := strings.Repeat("/", n)
		for _, text := range []string{fill, fill + "a", "a" + fill, "a" + fill + "b", fill + "..", fill + "A", fill + "abcde", fill + "\u00e9", fill + "/../a", "a" + fill + "/.."} {
			if got, want := impl.NormPath(text), normByLibrary(text); got != want {
				t.Errorf("NormPath of %d bytes %q: %v, not %v", len(text), text, got, want)
			}
		}
	}
}

func TestNormPathByteByByte(t *testing.T) {
	for _, text := range []string{"/a", "./b", "../c", "a/..", "a/./b", "a/../b", "ab/cd/../ef"} {
		for at := range text {
			for b := range 256 {
				turned := []byte(text)
				turned[at] = byte(b)
				if got, want := impl.NormPath(string(turned)), normByLibrary(string(turned)); got != want {
					t.Fatalf("NormPath of %q: %v, not %v", turned, got, want)
				}
			}
		}
	}
}

// askMadePath asks what promise 4 says of a text that is made a path.
func askMadePath(t *testing.T, text string) {
	t.Helper()
	made := impl.NormPath(text)
	if want := normByLibrary(text); made != want {
		t.Fatalf("NormPath of %q: %v, not %v", text, made, want)
	}
	if made.Code != impl.OK {
		return
	}
	if code := impl.PathFault(made.Text); code != impl.OK {
		t.Fatalf("%q is made %q, which has the fault %d", text, made.Text, code)
	}
	if again := impl.NormPath(made.Text); again != made {
		t.Fatalf("%q is made %q, and that is made %v", text, made.Text, again)
	}
}

func TestTextsThatAreMadePaths(t *testing.T) {
	for _, text := range textsOver([]string{"", ".", "..", "a", "bc", "wxyz", "abcde", "...", "A"}, "/", 5) {
		askMadePath(t, text)
	}
	for _, text := range textsOver([]string{"", ".", "..", "a", "b"}, "/", 7) {
		askMadePath(t, text)
	}
	for _, text := range textsOver([]string{"/", ".", "a"}, "", 10) {
		askMadePath(t, text)
	}
	for _, f := range faultyPaths() {
		askMadePath(t, f.path)
	}
}

func TestPathsStayAsTheyAre(t *testing.T) {
	for _, path := range rightPaths() {
		if got := impl.NormPath(path); got != (impl.TextResult{Text: path}) {
			t.Errorf("NormPath of %s: %v", path, got)
		}
	}
}

func TestAboveOfKnown(t *testing.T) {
	known := []struct {
		path   string
		above  []string
		parent string
		last   string
	}{
		{"/a", nil, "", "a"},
		{"/abcd", nil, "", "abcd"},
		{"/a/b", []string{"/a"}, "/a", "b"},
		{"/a/a", []string{"/a"}, "/a", "a"},
		{"/abcd/wxyz", []string{"/abcd"}, "/abcd", "wxyz"},
		{"/a/b/c", []string{"/a", "/a/b"}, "/a/b", "c"},
		{"/z/y/x", []string{"/z", "/z/y"}, "/z/y", "x"},
		{"/a/a/a", []string{"/a", "/a/a"}, "/a/a", "a"},
		{"/abcd/efgh/wxyz", []string{"/abcd", "/abcd/efgh"}, "/abcd/efgh", "wxyz"},
		{"/ab/a/abc", []string{"/ab", "/ab/a"}, "/ab/a", "abc"},
	}
	for _, k := range known {
		wantAnswer(t, "AboveOf "+k.path, impl.AboveOf(k.path), impl.NamesResult{Names: k.above})
		parent := impl.TextResult{Text: k.parent}
		if k.parent == "" {
			parent.Code = impl.ErrNone
		}
		wantAnswer(t, "ParentOf "+k.path, impl.ParentOf(k.path), parent)
		wantAnswer(t, "LastOf "+k.path, impl.LastOf(k.path), impl.TextResult{Text: k.last})
	}
}

func TestAllThatIsAbove(t *testing.T) {
	for _, p := range rightPaths() {
		var above []string
		for up := path.Dir(p); up != "/"; up = path.Dir(up) {
			above = slices.Insert(above, 0, up)
		}
		parent := impl.TextResult{Code: impl.ErrNone}
		if len(above) > 0 {
			parent = impl.TextResult{Text: path.Dir(p)}
		}
		wantAnswer(t, "AboveOf "+p, impl.AboveOf(p), impl.NamesResult{Names: above})
		wantAnswer(t, "ParentOf "+p, impl.ParentOf(p), parent)
		wantAnswer(t, "LastOf "+p, impl.LastOf(p), impl.TextResult{Text: path.Base(p)})
	}
}

func TestPathIsBelowAllThatIsAboveIt(t *testing.T) {
	for _, path := range rightPaths() {
		for _, top := range impl.AboveOf(path).Names {
			if code := impl.PathFault(top); code != impl.OK {
				t.Errorf("%s, above %s, has the fault %d", top, path, code)
			}
			if !impl.IsBelow(path, top) || impl.IsBelow(top, path) {
				t.Errorf("%s is not below %s, or that is below it", path, top)
			}
		}
	}
}

func TestIsBelowOfAllPairs(t *testing.T) {
	paths := rightPaths()
	for _, path := range paths {
		for _, top := range paths {
			if got, want := impl.IsBelow(path, top), strings.HasPrefix(path, top+"/"); got != want {
				t.Fatalf("IsBelow of %s and %s: %v", path, top, got)
			}
		}
	}
}

func TestIsBelowKnown(t *testing.T) {
	known := []struct {
		path  string
		top   string
		below bool
	}{
		{"/a/b", "/a", true}, {"/a/b/c", "/a", true}, {"/a/b/c", "/a/b", true}, {"/abcd/a", "/abcd", true}, {"/a/a", "/a", true}, {"/a/a/a", "/a/a", true},
		{"/a", "/a", false}, {"/a/b", "/a/b", false}, {"/a/b/c", "/a/b/c", false}, {"/a", "/a/b", false}, {"/a/b", "/a/b/c", false},
		{"/ab", "/a", false}, {"/ab/c", "/a", false}, {"/a/bc", "/a/b", false}, {"/a/bc/d", "/a/b", false}, {"/a", "/ab", false}, {"/ab/c", "/b", false},
		{"/b/a", "/a", false}, {"/b/a/c", "/a", false}, {"/b/a/c", "/a/c", false}, {"/a/b", "/b", false}, {"/a/b/c", "/a/c", false}, {"/a/b/c", "/b/c", false},
		{"/a/b", "", false}, {"/a/b", "/", false}, {"/a/b", "a", false}, {"/a/b", "/a/", false}, {"/a/b", "/A", false}, {"/a", "", false}, {"/a", "/", false},
		{"/a/b/", "/a", false}, {"/a//b", "/a", false}, {"/a/B", "/a", false}, {"a/b", "a", false}, {"a/b", "/a", false}, {"/a/.", "/a", false}, {"/a/../b", "/a", false},
		{"/a/b/c/d", "/a", false}, {"/a/b/c/d", "/a/b/c", false}, {"/abcde/a", "/abcde", false}, {"/a/abcde", "/a", false}, {"/A/b", "/A", false},
		{"", "", false}, {"/", "/", false}, {"", "/a", false}, {"/", "/a", false}, {"//a", "/", false}, {"/a/b/", "/a/b", false},
	}
	for _, k := range known {
		if got := impl.IsBelow(k.path, k.top); got != k.below {
			t.Errorf("IsBelow of %q and %q: %v", k.path, k.top, got)
		}
	}
}

func TestNothingOfFaultyPaths(t *testing.T) {
	for _, f := range faultyPaths() {
		name := shortText(f.path)
		wantAnswer(t, "AboveOf "+name, impl.AboveOf(f.path), impl.NamesResult{Code: f.code})
		wantAnswer(t, "ParentOf "+name, impl.ParentOf(f.path), impl.TextResult{Code: f.code})
		wantAnswer(t, "LastOf "+name, impl.LastOf(f.path), impl.TextResult{Code: f.code})
		tops := []string{"", "/", "/a", "/a/b", "/a/b/c", "/abcd", "/abcde", path.Dir(f.path), strings.TrimSuffix(f.path, "/"), f.path}
		for _, top := range tops {
			if impl.IsBelow(f.path, top) {
				t.Errorf("%s, which has a fault, is below %s", name, shortText(top))
			}
		}
		for _, below := range []string{"/a", "/a/b", "/a/b/c", f.path + "/a", f.path + "a"} {
			if impl.IsBelow(below, f.path) {
				t.Errorf("%s is below %s, which has a fault", shortText(below), name)
			}
		}
	}
}
