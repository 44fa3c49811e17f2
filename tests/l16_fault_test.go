package tests

import (
	"fmt"
	"slices"
	"strings"
	"testing"

	"loop.example/g00299/impl"
)

// textsThatAreTooMany: more bytes than a script may have, more lines, and both; with lines that would say something, have a code, or be empty.
func textsThatAreTooMany() []string {
	return []string{
		strings.Repeat(" ", 1201), strings.Repeat("x", 1201), strings.Repeat("\x00", 5000), strings.Repeat("again\n", 41), strings.Repeat("\n", 41), strings.Repeat("\n", 40) + "x", strings.Repeat("\n", 40) + " ", strings.Repeat("wink\n", 40) + "show",
		strings.Repeat("\n", 1201), strings.Repeat("show\n", 300), "prepare a\nshow\n" + strings.Repeat(" ", 1200), strings.Repeat("é", 601), strings.Repeat("prepare a\n", 256+40), scriptText(slices.Repeat([]string{strings.Repeat("x", 40)}, 30)...), strings.Repeat("x", 1200) + "\n",
	}
}

// stepsWithFaults: lines that a store without a fault would do, tell or have a code for.
func stepsWithFaults() []string {
	return []string{"", " ", "show", "sync", "crash", "cat a /f", "cat q q", "ls a /", "ls q q", "again", "prepare a", "commit q", "wink", "show x", "\x1f", lineOf(61, 1), strings.Repeat(" ", 61), strings.Repeat("x", 2000)}
}

// wantAllScriptCode: each function that takes a store, with what is right beside it and with what is wrong.
func wantAllScriptCode(t *testing.T, f faultyStore) {
	t.Helper()
	wantAnswer(t, f.name+": StoreText", impl.StoreText(f.store), textCode(f.code))
	for _, name := range []string{"a", "b", "q", "", "Q", "base"} {
		for _, path := range []string{"/f", "/d", "/q", "", "/", "/abcde", "f"} {
			wantAnswer(t, fmt.Sprintf("%s: CatText of %q and %q", f.name, name, path), impl.CatText(f.store, name, path), textCode(f.code))
		}
	}
	for _, line := range stepsWithFaults() {
		wantAnswer(t, fmt.Sprintf("%s: StepScript of %q", f.name, shortText(line)), impl.StepScript(f.store, line), scriptCode(f.code))
		wantAnswer(t, fmt.Sprintf("%s: RunScript of %q", f.name, shortText(line)), impl.RunScript(f.store, line+"\n"), scriptCode(f.code))
	}
	for _, text := range append(textsThatAreTooMany(), "", "\n", "show\nshow\n", strings.Repeat("again\n", 40)) {
		wantAnswer(t, fmt.Sprintf("%s: RunScript of %q", f.name, shortText(text)), impl.RunScript(f.store, text), scriptCode(f.code))
	}
}

func TestFaultOfTheStoreAheadOfScripts(t *testing.T) {
	others := 0
	for i, f := range faultyStores() {
		if i%2 == 0 {
			wantAllScriptCode(t, f)
		}
		if f.code != impl.ErrMany {
			others++
		}
	}
	for i, f := range twiceFaultyStores() {
		if i%9 == 0 {
			wantAllScriptCode(t, f)
		}
	}
	if others < 50 {
		t.Errorf("just %d stores have a code that no text has", others)
	}
}

func TestScriptsThatAreTooMany(t *testing.T) {
	for _, text := range textsThatAreTooMany() {
		for _, x := range []impl.Store{{}, baseStore(), fullStore()} {
			wantAnswer(t, fmt.Sprintf("RunScript of %q", shortText(text)), wantRun(t, x, text), scriptCode(impl.ErrMany))
		}
	}
}

// faultyCat: a name and a path, and the code of the first one that is so.
type faultyCat struct {
	name string
	path string
	code int64
}

// storeToCat: of each file that cannot be read one: a chunk is away, too few bytes, too many, and a chunk away of one whose size would not be right, either.
func storeToCat() impl.Store {
	return impl.Store{
		Snaps: snapsOf(
			doneSnap("a", "", fileOfChunks("/away", 5, "never"), fileOfChunks("/both", 7, "never"), dirAt("/d"), fileOfChunks("/d/few", 8, "hello"), fileOfChunks("/d/many", 3, "hello"), fileAt("/f", "hello"), fileOfChunks("/two", 11, "hello", "never")),
			activeSnap("b", "a", whiteAt("/d"), whiteAt("/f")),
		),
		Fetch: impl.Fetch{Chunks: chunksOf("hello")},
	}
}

func catsToAsk() []faultyCat {
	var list []faultyCat
	for path, code := range map[string]int64{
		"": impl.ErrText, "f": impl.ErrText, "/": impl.ErrText, "//": impl.ErrText, "/f/": impl.ErrText, "/F": impl.ErrText, "/d/../f": impl.ErrText, "f/": impl.ErrText, "\x00": impl.ErrText, "/f ": impl.ErrText, "/abcde": impl.ErrMany, "/a/b/c/d": impl.ErrMany, "/abcde/": impl.ErrText, "/abcde/F": impl.ErrText, "/a/b/c/d/": impl.ErrText,
		"/q": impl.ErrNone, "/f/f": impl.ErrNone, "/d/q": impl.ErrNone, "/q/q/q": impl.ErrNone, "/d": impl.ErrDir, "/away": impl.ErrAway, "/both": impl.ErrAway, "/two": impl.ErrAway, "/d/few": impl.ErrSum, "/d/many": impl.ErrSum, "/f": impl.OK,
	} {
		list = append(list, faultyCat{"a", path, code})
		for _, name := range []string{"", "q", "A", "abcde", "a ", " a", "aa", "-", "\x00", "/f", "base", "ab"} {
			list = append(list, faultyCat{name, path, impl.ErrNone})
		}
	}
	return append(list, faultyCat{"b", "/d", impl.ErrNone}, faultyCat{"b", "/f", impl.ErrNone}, faultyCat{"b", "/d/few", impl.ErrNone}, faultyCat{"b", "/away", impl.ErrAway}, faultyCat{"b", "/F", impl.ErrText}, faultyCat{"b", "/abcde", impl.ErrMany})
}

// TestCodesOfCat: each alone, and a name of nothing ahead of all that the path and the file are.
func TestCodesOfCat(t *testing.T) {
	x, codes := storeToCat(), map[int64]int{}
	for _, c := range catsToAsk() {
		want := textCode(c.code)
		if c.code == impl.OK {
			want = textIs("hello")
		}
		wantCat(t, x, c.name, c.path, want)
		codes[c.code]++
	}
	for _, code := range []int64{impl.OK, impl.ErrMany, impl.ErrNone, impl.ErrText, impl.ErrSum, impl.ErrAway, impl.ErrDir} {
		if codes[code] == 0 {
			t.Errorf("the code %d is of no file", code)
		}
	}
}

// TestCodesOfLs: each alone, and a name of nothing ahead of all that the path is; no chunk is asked for.
func TestCodesOfLs(t *testing.T) {
	x := storeToCat()
	for _, c := range catsToAsk() {
		if len(wordsByHand("ls "+c.name+" "+c.path)) != 3 || strings.Contains(c.name+c.path, " ") {
			continue
		}
		code := c.code
		switch {
		case c.name != "a" && c.name != "b":
			code = impl.ErrNone
		case c.path == "/" || c.path == "/d" && c.name == "a":
			code = impl.OK
		case code == impl.ErrAway || code == impl.ErrSum || code == impl.OK:
			code = impl.ErrDir
		}
		if got := wantStepped(t, x, "ls "+c.name+" "+c.path); got.Code != code {
			t.Errorf("ls %s %s: code %d, not %d", c.name, c.path, got.Code, code)
		}
	}
}

// TestCodesOfOtherLinesInOrder: what is no line ahead of what is no command, that ahead of no room, and that ahead of a Reply; none of them is asked of what a script has of its own.
func TestCodesOfOtherLinesInOrder(t *testing.T) {
	taken := linesOfSize(2000)
	full := storeOf("prepare a")
	full.Log = logOf(taken[:3], taken[3:])
	long := strings.Repeat("x", 61)
	for _, x := range []impl.Store{full, storeOf("prepare a")} {
		room := len(x.Log.Sure) == 0
		for line, code := range map[string]int64{
			"wink": impl.ErrText, "wink\x7f": impl.ErrText, long: impl.ErrMany, long + "\x7f": impl.ErrMany, "show x": impl.ErrText, "show " + long: impl.ErrMany, "show \x01": impl.ErrText, "crash " + long: impl.ErrMany, "sync " + long: impl.ErrMany, "cat " + long: impl.ErrMany, "ls a b " + long: impl.ErrMany,
			"want 123": impl.ErrText, "cat a": impl.ErrText, "cat a /f x": impl.ErrText, "cat q " + long: impl.ErrNone, "cat a " + long: impl.ErrText, "cat a /" + long: impl.ErrMany, "cat " + long + " \x01": impl.ErrNone, "cat a \x01": impl.ErrText, "ls a \x01": impl.ErrText, "ls q \x01": impl.ErrNone, "ls a /" + long: impl.ErrMany, "ls " + long + " /": impl.ErrNone,
			"ls a /q" + strings.Repeat(" ", 100): impl.ErrNone, "cat a /q" + strings.Repeat(" ", 100): impl.ErrNone,
		} {
			wantStepCode(t, x, line, code)
		}
		for _, line := range []string{"again", "prepare a", "commit q", "lose " + hexOf("x"), "commit q" + strings.Repeat(" ", 52)} {
			if !room {
				wantStepCode(t, x, line, impl.ErrMany)
			} else if got := wantStepped(t, x, line); got.Code != impl.OK {
				t.Errorf("%q where there is room: %s", line, toldScript(got))
			}
			wantStepCode(t, x, line+strings.Repeat(" ", 61), impl.ErrMany)
		}
		for _, line := range []string{"show", "sync", "ls a /", "", "show" + strings.Repeat(" ", 100), "  sync  " + strings.Repeat(" ", 100), "ls" + strings.Repeat(" ", 100) + "a /"} {
			if got := wantStepped(t, x, line); got.Code != impl.OK {
				t.Errorf("%q: %s", line, toldScript(got))
			}
		}
	}
}
