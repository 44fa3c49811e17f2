package tests

import (
	"bytes"
	"fmt"
	"slices"
	"strings"
	"testing"

	"loop.example/g00299/impl"
)

// likeBlanks: what looks like a blank, or ends a line elsewhere, and is neither.
func likeBlanks() []string {
	return []string{"\t", "\v", "\f", "\r", "\x00", "\x1f", "\x7f", "\x85", "\xa0", "\u0085", "\u00a0", "\u1680", "\u2000", "\u2003", "\u2009", "\u200b", "\u2028", "\u2029", "\u202f", "\u205f", "\u3000", "\ufeff", "\xe2\x80", "\xc2", "\xff", "_", "+", "%20", "\x21", "\xa0\xc2"}
}

func TestWordsKnown(t *testing.T) {
	for line, words := range map[string][]string{
		"": nil, " ": nil, "  ": nil, "          ": nil, "a": {"a"}, " a": {"a"}, "a ": {"a"}, "   a   ": {"a"}, "a b": {"a", "b"}, " a  b ": {"a", "b"}, "ab": {"ab"}, "a  b   c    d": {"a", "b", "c", "d"},
		"write a /f hello": {"write", "a", "/f", "hello"}, "a a a": {"a", "a", "a"}, "show\n": {"show\n"}, "a\nb c": {"a\nb", "c"}, "a\tb\t c": {"a\tb\t", "c"}, "\n": {"\n"}, " \n ": {"\n"}, "é è": {"é", "è"}, "\xff \xfe": {"\xff", "\xfe"}, "\xc2 \xa0": {"\xc2", "\xa0"}, "\xe2\x80 \x83": {"\xe2\x80", "\x83"},
		"- . /": {"-", ".", "/"}, "a, b": {"a,", "b"}, "\"a b\"": {"\"a", "b\""},
	} {
		wantAnswer(t, fmt.Sprintf("WordsOf %q", line), impl.WordsOf(line), impl.NamesResult{Names: words})
		wantAnswer(t, fmt.Sprintf("%q by the model", line), impl.NamesResult{Names: wordsByHand(line)}, impl.NamesResult{Names: words})
	}
	for _, blank := range likeBlanks() {
		wantAnswer(t, fmt.Sprintf("%q alone", blank), impl.WordsOf(blank), impl.NamesResult{Names: []string{blank}})
		wantAnswer(t, fmt.Sprintf("%q between", blank), impl.WordsOf("a"+blank+"b c"), impl.NamesResult{Names: []string{"a" + blank + "b", "c"}})
		wantAnswer(t, fmt.Sprintf("%q beside a blank", blank), impl.WordsOf(" "+blank+" a "+blank+"b"), impl.NamesResult{Names: []string{blank, "a", blank + "b"}})
	}
}

// TestWordsOfEachByte: each byte but the blank is of a word, alone, ahead, behind and between others.
func TestWordsOfEachByte(t *testing.T) {
	for b := range 256 {
		word := string([]byte{byte(b)})
		want := []string{"x" + word + "y", word + "z", "z" + word, word}
		if b == 32 {
			want = []string{"x", "y", "z", "z"}
		}
		wantAnswer(t, fmt.Sprintf("the byte %d", b), impl.WordsOf(strings.Join([]string{"x" + word + "y", word + "z", "z" + word, word}, " ")), impl.NamesResult{Names: want})
	}
}

// TestWordsJoinedByBlanks: words that are joined, by whatever number of blanks, and with blanks around, are these words again.
func TestWordsJoinedByBlanks(t *testing.T) {
	next := numbersFrom(18)
	for n := range 300 {
		words := make([]string, n%23)
		for i := range words {
			word := make([]byte, 1+next(1+n/4))
			for at := range word {
				if word[at] = byte(next(256)); word[at] == ' ' {
					word[at] = 'x'
				}
			}
			words[i] = string(word)
		}
		want := impl.NamesResult{Names: words}
		wantAnswer(t, "one blank between", impl.WordsOf(strings.Join(words, " ")), want)
		wantAnswer(t, "some blanks between and around", impl.WordsOf(strings.Repeat(" ", next(9))+strings.Join(words, strings.Repeat(" ", 1+next(9)))+strings.Repeat(" ", next(9))), want)
		got := impl.WordsOf(strings.Join(words, "  "))
		wantAnswer(t, "joined again", impl.WordsOf(strings.Join(got.Names, " ")), want)
	}
}

func TestWordsOfLongLines(t *testing.T) {
	for _, n := range []int{59, 60, 61, 1200, 1201, 1 << 16, 1<<16 + 1, 1 << 20} {
		wantAnswer(t, "one word", impl.WordsOf(strings.Repeat("a", n)), impl.NamesResult{Names: []string{strings.Repeat("a", n)}})
		wantAnswer(t, "blanks", impl.WordsOf(strings.Repeat(" ", n)), impl.NamesResult{})
		got := impl.WordsOf(strings.Repeat(" a", n))
		if got.Code != impl.OK || len(got.Names) != n || slices.ContainsFunc(got.Names, func(word string) bool { return word != "a" }) {
			t.Errorf("%d words: the code %d, and %d of them", n, got.Code, len(got.Names))
		}
	}
}

func wantText(t *testing.T, what string, x impl.Store, lines ...string) {
	t.Helper()
	want := scriptText(lines...)
	wantAnswer(t, what, impl.StoreText(x), textIs(want))
	wantAnswer(t, what+", by the model", storeTextByHand(x), textIs(want))
	wantSaid(t, x, "show", want)
	wantRunSays(t, x, "show", want)
	wantRunSays(t, x, "show\nshow\n", want+want)
}

// TestStoreTextKnown: with and without a parent, active and done, leased and free, layers of no entry, one and twelve.
func TestStoreTextKnown(t *testing.T) {
	wantText(t, "nothing", impl.Store{}, "chunks 0 0 0")
	wantText(t, "a base", impl.NewStore(fullLayer(12)).Store, "snap base - done leased 12", "chunks 0 0 0")
	wantText(t, "a log alone", impl.Store{Log: logOf([]string{"again"}, []string{"again"})}, "chunks 0 0 0")
	wantText(t, "the full store", fullStore(),
		"snap a - done leased 3", "snap b a active free 1", "snap c a done free 1", "snap d c active leased 1", "snap e - done free 0", "snap f e active free 12", "snap g - done free 1", "snap h g done free 0", "snap i h done free 1", "snap j i done leased 12",
		"chunks 40 12 40",
	)
	for n := range 13 {
		for parent, told := range map[string]string{"": "-", "p": "p", "zzzz": "zzzz"} {
			for kind, word := range []string{1: "active", 2: "done"} {
				for _, lease := range []bool{false, true} {
					if kind == 0 {
						continue
					}
					s := impl.Snap{Name: "some", Parent: parent, Kind: int64(kind), Lease: lease, Layer: fullLayer(n)}
					held := "free"
					if lease {
						held = "leased"
					}
					line := fmt.Sprintf("snap some %s %s %s %d", told, word, held, n)
					switch parent {
					case "":
						wantText(t, line, impl.Store{Snaps: snapsOf(s)}, line, "chunks 0 0 0")
					case "p":
						wantText(t, line, impl.Store{Snaps: snapsOf(doneSnap("p", ""), s)}, "snap p - done free 0", line, "chunks 0 0 0")
					default:
						wantText(t, line, impl.Store{Snaps: snapsOf(s, doneSnap("zzzz", ""))}, line, "snap zzzz - done free 0", "chunks 0 0 0")
					}
				}
			}
		}
	}
}

// TestStoreTextCounts: chunks, wants and failed digests, each by itself and not mistaken for one another.
func TestStoreTextCounts(t *testing.T) {
	for n := range 41 {
		wantText(t, fmt.Sprint(n, " chunks"), impl.Store{Fetch: fetchOf(0, 0, n)}, fmt.Sprintf("chunks %d 0 0", n))
		wantText(t, fmt.Sprint(n, " failed"), impl.Store{Fetch: fetchOf(0, n, 0)}, fmt.Sprintf("chunks 0 0 %d", n))
		wantText(t, fmt.Sprint(n%13, " wants"), impl.Store{Fetch: fetchOf(n%13, 0, 0)}, fmt.Sprintf("chunks 0 %d 0", n%13))
		wantText(t, "all of them", impl.Store{Fetch: fetchOf(n%13, 40-n, n)}, fmt.Sprintf("chunks %d %d %d", n, n%13, 40-n))
	}
	for n := range 11 {
		var snaps []impl.Snap
		var lines []string
		for i := range n {
			snaps = append(snaps, activeSnap(fmt.Sprintf("s%c", 'a'+i), ""))
			lines = append(lines, fmt.Sprintf("snap s%c - active free 0", 'a'+i))
		}
		wantText(t, fmt.Sprint(n, " snapshots"), impl.Store{Snaps: snaps}, append(lines, "chunks 0 0 0")...)
	}
}

// storeWithFile: a store with one done snapshot that has a file, whose chunks are there.
func storeWithFile(data string) impl.Store {
	return impl.Store{Snaps: snapsOf(doneSnap("a", "", fileAt("/f", data))), Fetch: impl.Fetch{Chunks: chunksFor(data)}}
}

func wantCat(t *testing.T, x impl.Store, name string, path string, want impl.TextResult) {
	t.Helper()
	what := fmt.Sprintf("CatText of %s, %q and %q", toldStore(x), name, path)
	wantAnswer(t, what, impl.CatText(x, name, path), want)
	wantAnswer(t, what+", by the model", catByHand(x, name, path), want)
	if len(wordsByHand(name)) != 1 || len(wordsByHand(path)) != 1 || name != wordsByHand(name)[0] || path != wordsByHand(path)[0] {
		return
	}
	if want.Code != impl.OK {
		wantStepCode(t, x, "cat "+name+" "+path, want.Code)
	} else {
		wantSaid(t, x, "cat "+name+" "+path, want.Text)
	}
}

// TestCatOfBytes: files of each length, and each byte at each place of a chunk.
func TestCatOfBytes(t *testing.T) {
	for data, text := range map[string]string{
		"": "-", "a": "a", "z": "z", "`": ".", "{": ".", "`a{": ".a.", "A": ".", "Z": ".", "-": ".", ".": ".", "hello": "hello", "Hello, you": ".ello..you", "a b": "a.b", "a\nb": "a.b", "\n": ".", " ": ".", "\x00": ".", "\xff\xfe": "..", "é": "..", "aéb": "a..b", "\xe1\xe2": "..",
		"abcdefghijklmnopqrstuvwx": "abcdefghijklmnopqrstuvwx", "yz0123456789": "yz..........", "abcdefgh": "abcdefgh", "abcdefghi": "abcdefghi", "aaaaaaaaaaaaaaaa": "aaaaaaaaaaaaaaaa", "\x01\x02\x03\x04\x05\x06\x07\x08abc": "........abc",
	} {
		wantCat(t, storeWithFile(data), "a", "/f", textIs(text))
	}
	letters := 0
	for b := range 256 {
		want := "."
		if b >= 97 && b <= 122 {
			want = string(rune(b))
			letters++
		}
		for _, at := range []int{0, 3, 7, 8, 15, 23} {
			data := []byte("qwertyuiopasdfghjklzxcvb")
			data[at] = byte(b)
			got := impl.CatText(storeWithFile(string(data)), "a", "/f")
			if text := "qwertyuiopasdfghjklzxcvb"[:at] + want + "qwertyuiopasdfghjklzxcvb"[at+1:]; got.Code != impl.OK || got.Text != text {
				t.Fatalf("the byte %d at %d: %q with the code %d, not %q", b, at, got.Text, got.Code, text)
			}
		}
	}
	if letters != 26 {
		t.Errorf("%d letters", letters)
	}
	for n := range 25 {
		data := "thequickbrownfoxjumpsove"[:n]
		if n > 0 {
			wantCat(t, storeWithFile(data), "a", "/f", textIs(data))
		}
	}
	for _, data := range []string{"`{az~", "HELLO", "a-b.c/d", "x", "12345678abcdefgh", "|}a!"} {
		x := wantRunSays(t, impl.Store{}, "prepare a\nwrite a /f "+data+"\ncat a /f", fmt.Sprintf("1 0\n1 %d\n%s\n", (len(data)+7)/8, lettersByHand(data)))
		wantCat(t, x, "a", "/f", textIs(lettersByHand(data)))
	}
}

// TestCatThroughTheChain: the uppermost file that is seen, what is hidden, what is away and comes, and what is no file.
func TestCatThroughTheChain(t *testing.T) {
	x := impl.Store{
		Snaps: snapsOf(
			doneSnap("a", "", dirAt("/d"), fileAt("/d/f", "low"), fileAt("/d/g", "lower"), fileAt("/e", "")), doneSnap("b", "a", dirAt("/d"), fileAt("/d/f", "middle"), dirAt("/e"), fileAt("/e/f", "low")),
			activeSnap("c", "b", opaqueAt("/d"), fileAt("/d/h", "high"), whiteAt("/e")), activeSnap("d", "b", whiteAt("/d")), doneSnap("e", ""),
		),
		Fetch: impl.Fetch{Chunks: chunksFor("low", "middle", "high")},
	}
	for words, want := range map[string]impl.TextResult{
		"a /d/f": textIs("low"), "b /d/f": textIs("middle"), "c /d/f": textCode(impl.ErrNone), "d /d/f": textCode(impl.ErrNone), "e /d/f": textCode(impl.ErrNone),
		"a /d/g": textCode(impl.ErrAway), "b /d/g": textCode(impl.ErrAway), "c /d/g": textCode(impl.ErrNone), "c /d/h": textIs("high"), "b /d/h": textCode(impl.ErrNone),
		"a /e": textIs("-"), "b /e": textCode(impl.ErrDir), "b /e/f": textIs("low"), "c /e": textCode(impl.ErrNone), "c /e/f": textCode(impl.ErrNone), "d /e/f": textIs("low"), "d /e": textCode(impl.ErrDir),
		"a /d": textCode(impl.ErrDir), "c /d": textCode(impl.ErrDir), "d /d": textCode(impl.ErrNone), "a /": textCode(impl.ErrText), "a d": textCode(impl.ErrText), "a /d/": textCode(impl.ErrText), "a /abcde": textCode(impl.ErrMany), "a /a/b/c/d": textCode(impl.ErrMany),
		"q /d/f": textCode(impl.ErrNone), "A /d/f": textCode(impl.ErrNone), "abcde /d/f": textCode(impl.ErrNone), "- /d/f": textCode(impl.ErrNone), "q /": textCode(impl.ErrNone), "q x": textCode(impl.ErrNone), "/d/f a": textCode(impl.ErrNone),
	} {
		name, path, _ := strings.Cut(words, " ")
		wantCat(t, x, name, path, want)
	}
	wantCat(t, x, "", "/d/f", textCode(impl.ErrNone))
	wantCat(t, x, "a", "", textCode(impl.ErrText))
	wantCat(t, x, "", "", textCode(impl.ErrNone))
	wantCat(t, x, "a ", "/d/f", textCode(impl.ErrNone))
	come := storeBehind(x, "want "+hexOf("lower"), "bring "+hexOf("lower")+" lower")
	wantCat(t, come, "a", "/d/g", textIs("lower"))
	wantCat(t, come, "b", "/d/g", textIs("lower"))
}

// TestCatOfWhatIsPartlyThere: of three chunks each choice of those that are there; wanted and failed ones are not.
func TestCatOfWhatIsPartlyThere(t *testing.T) {
	parts := []string{"abcdefgh", "12345678", "xyz"}
	for bits := range 8 {
		x := impl.Store{Snaps: snapsOf(activeSnap("a", "", fileOfChunks("/f", 19, parts...))), Fetch: impl.Fetch{Chunks: chunksOf(someOf(parts, bits)...)}}
		want := textCode(impl.ErrAway)
		if bits == 7 {
			want = textIs("abcdefgh........xyz")
		}
		wantCat(t, x, "a", "/f", want)
		if bits == 6 {
			wanted, failed := x, x
			wanted.Fetch.Wants, failed.Fetch.Failed = wantsOf([]int64{2}, parts[0]), digestsOfTexts(parts[0])
			wantCat(t, wanted, "a", "/f", want)
			wantCat(t, failed, "a", "/f", want)
			wantSaid(t, storeBehind(wanted, "bring "+hexOf(parts[0])+" "+parts[0]), "cat a /f", "abcdefgh........xyz")
		}
	}
	for size := range int64(25) {
		want := textCode(impl.ErrSum)
		if size == 11 {
			want = textIs("abcdefghxyz")
		}
		if (size+7)/8 == 2 {
			wantCat(t, impl.Store{Snaps: snapsOf(doneSnap("a", "", fileOfChunks("/f", size, parts[0], parts[2]))), Fetch: impl.Fetch{Chunks: chunksOf(parts...)}}, "a", "/f", want)
			wantCat(t, impl.Store{Snaps: snapsOf(doneSnap("a", "", fileOfChunks("/f", size, parts[0], parts[2]))), Fetch: impl.Fetch{Chunks: chunksOf(parts[1:]...)}}, "a", "/f", textCode(impl.ErrAway))
		}
	}
}

// TestLsKnown: directories with no, one and several names, through layers; what is no directory, and names of nothing.
func TestLsKnown(t *testing.T) {
	x := impl.Store{Snaps: snapsOf(
		doneSnap("a", "", dirAt("/a"), dirAt("/b"), fileAt("/b/f", "x"), dirAt("/c"), fileAt("/c/a", "x"), dirAt("/c/b"), fileAt("/c/b/z", "x"), fileAt("/c/c", ""), fileAt("/f", "x")),
		doneSnap("b", "a", whiteAt("/b"), dirAt("/c"), whiteAt("/c/a"), fileAt("/c/aaaa", "x"), fileAt("/e", "x")), activeSnap("c", "b", dirAt("/a"), fileAt("/a/n", "x"), opaqueAt("/c")), activeSnap("n", ""), leasedSnap(doneSnap("o", "", fileAt("/only", "x"))),
	)}
	for words, said := range map[string]string{
		"a /": "a b c f", "b /": "a c e f", "c /": "a c e f", "n /": "", "o /": "only", "a /a": "", "b /a": "", "c /a": "n", "a /b": "f", "a /c": "a b c", "b /c": "aaaa b c", "c /c": "", "a /c/b": "z", "b /c/b": "z",
	} {
		wantSaid(t, x, "ls "+words, said)
		if said != "" {
			said += "\n"
		}
		wantRunSays(t, x, "ls "+words, said)
		wantRunSays(t, x, " ls  "+words+" \nls "+words, said+said)
	}
	for words, code := range map[string]int64{
		"a /f": impl.ErrDir, "a /b/f": impl.ErrDir, "b /e": impl.ErrDir, "b /b": impl.ErrNone, "c /c/b": impl.ErrNone, "a /q": impl.ErrNone, "n /a": impl.ErrNone, "a /b/f/g": impl.ErrNone, "a a": impl.ErrText, "a //": impl.ErrText, "a /a/": impl.ErrText, "a /A": impl.ErrText, "a .": impl.ErrText,
		"a /abcde": impl.ErrMany, "a /a/b/c/d": impl.ErrMany, "q /": impl.ErrNone, "q /a": impl.ErrNone, "q x": impl.ErrNone, "q /abcde": impl.ErrNone, "A /": impl.ErrNone, "/ a": impl.ErrNone, "- /": impl.ErrNone,
	} {
		wantStepCode(t, x, "ls "+words, code)
		wantRunSays(t, x, "ls "+words, fmt.Sprintf("! %d\n", code))
	}
}

// TestMostNamesInADirectory: as many as four layers have.
func TestMostNamesInADirectory(t *testing.T) {
	var x impl.Store
	var names []string
	for i, letter := range []string{"a", "b", "c", "d"} {
		x.Snaps = append(x.Snaps, doneSnap(letter, []string{"", "a", "b", "c"}[i], numberedFiles(letter, 12)...))
		for _, e := range numberedFiles(letter, 12) {
			names = append(names, strings.TrimPrefix(e.Path, "/"))
		}
		wantSaid(t, x, "ls "+letter+" /", strings.Join(names, " "))
	}
	if len(names) != 48 || !slices.IsSorted(names) {
		t.Errorf("the names are %q", names)
	}
}

// TestWordsBehindTheCommands: with too few or too many of them a line is left to DoLine, which has a code for it: that of a line that is none, or of no command.
func TestWordsBehindTheCommands(t *testing.T) {
	right := map[string]int{"show": 0, "sync": 0, "crash": 0, "cat": 2, "ls": 2}
	full := baseStore()
	full.Log = logOf(linesOfSize(2000), nil)
	for word, number := range right {
		for n := range 6 {
			for _, behind := range [][]string{{"base", "/d", "/d", "base", "x", "y"}, {"q", "q", "q", "q", "q", "q"}, {"base", "/d/e", "base", "/", "show", "cat"}} {
				line := strings.Join(append([]string{word}, behind[:n]...), " ")
				for _, x := range []impl.Store{{}, baseStore(), full} {
					for _, line := range []string{line, " " + line, line + "   ", strings.ReplaceAll(line, " ", "   ")} {
						if n != number {
							wantStepCode(t, x, line, impl.ErrText)
							continue
						}
						wantStepped(t, x, line)
					}
					if n != number {
						wantStepCode(t, x, line+strings.Repeat(" ", 60), impl.ErrMany)
						wantStepCode(t, x, line+"\x01", impl.ErrText)
					}
				}
			}
		}
	}
}

// TestCommandsOfAScriptAreTheirWordsAlone: other letters, a part of the word, more of it, and other bytes for blanks.
func TestCommandsOfAScriptAreTheirWordsAlone(t *testing.T) {
	x := baseStore()
	for _, line := range []string{"show", "sync", "crash", "cat base /d/e", "ls base /"} {
		word, behind, _ := strings.Cut(line, " ")
		for _, other := range []string{strings.ToUpper(word), strings.ToUpper(word[:1]) + word[1:], word[:len(word)-1], word[1:], word + "s", "x" + word, word + word, word + ".", "-" + word, "$" + word, "\"" + word + "\"", word + ";"} {
			wantStepCode(t, x, strings.TrimSpace(other+" "+behind), impl.ErrText)
		}
		for _, blank := range likeBlanks() {
			for _, other := range []string{blank + line, line + blank, blank + " " + line, line + " " + blank} {
				wantStepCode(t, x, other, impl.ErrText)
			}
			if behind != "" {
				wantStepCode(t, x, strings.Replace(line, " ", blank, 1), impl.ErrText)
				wantStepCode(t, x, strings.ReplaceAll(line, " ", blank), impl.ErrText)
			}
		}
	}
	for _, blank := range likeBlanks() {
		wantStepCode(t, x, blank, impl.ErrText)
		wantStepCode(t, x, " "+blank+" ", impl.ErrText)
		wantRunSays(t, x, "show"+blank+"\n"+blank+"\n"+blank+"show", "! 5\n! 5\n! 5\n")
	}
	wantRunSays(t, x, "sync\r\nshow\r\n\r\ncrash", "! 5\n! 5\n! 5\nback\n")
	wantStepCode(t, x, "sync\n", impl.ErrText)
	wantStepCode(t, x, "\n", impl.ErrText)
	wantStepCode(t, x, "sync\nsync", impl.ErrText)
}

// TestBlanksAroundTheCommands: ahead of words, behind them and between them, in lines of any length.
func TestBlanksAroundTheCommands(t *testing.T) {
	x := storeBehind(baseStore(), "prepare a", "write a /f hello")
	for _, line := range []string{"show", "sync", "crash", "cat a /f", "cat base /d/e", "ls a /", "ls base /d", "cat q /f", "cat base /d/f", "ls base /q"} {
		plain := wantStepped(t, x, line)
		for _, n := range []int{1, 2, 7, 60, 61, 500} {
			blanks := strings.Repeat(" ", n)
			for _, other := range []string{blanks + line, line + blanks, blanks + line + blanks, strings.ReplaceAll(line, " ", blanks), " " + strings.ReplaceAll(line, " ", blanks) + " "} {
				wantAnswer(t, fmt.Sprintf("%q with %d blanks", line, n), impl.StepScript(x, other), plain)
				run := impl.RunScript(x, other+"\n"+line)
				wantAnswer(t, fmt.Sprintf("%q with %d blanks, in a script", line, n), run, impl.RunScript(x, line+"\n"+line))
			}
		}
	}
	for _, line := range []string{"again" + strings.Repeat(" ", 55), strings.Repeat(" ", 55) + "again"} {
		wantSaid(t, x, line, "2 1")
		wantStepCode(t, x, line+" ", impl.ErrMany)
	}
}

// TestEachCommandOfTheStoreInAScript: what DoLine says is said, and its line stands in the log.
func TestEachCommandOfTheStoreInAScript(t *testing.T) {
	x, lines := commandsToAsk()
	for _, line := range append(lines, "commit q", "prepare A", "wink", "prepare", "commit a", "remove a", " again ", "   prepare    c   ") {
		done, step := impl.DoLine(x, line), wantStepped(t, x, line)
		want := scriptIs(done.Store, done.Said)
		switch {
		case done.Code != impl.OK:
			want = scriptCode(done.Code)
		case done.Reply != impl.OK:
			want = scriptIs(x, fmt.Sprint("no ", done.Reply))
		case !bytes.HasSuffix(step.Store.Log.Loose, packByHand(line)):
			t.Errorf("%q does not stand in the log %s", line, toldLog(step.Store.Log))
		}
		wantAnswer(t, line, step, want)
	}
}

// TestRepliesAndCodesInDigits: of one digit and of two.
func TestRepliesAndCodesInDigits(t *testing.T) {
	x := storeOf("prepare a", "mkdir a /d", "mkdir a /d/d", "commit a", "prepare b", "mkdir b /d", "mkdir b /d/d", "want "+hexOf("x"), "lose "+hexOf("x"), "lose "+hexOf("x"), "lose "+hexOf("x"))
	for line, said := range map[string]string{
		"rm b /d": "no 1", "write b /f " + strings.Repeat("y", 25): "no 2", "rm b /f": "no 4", "prepare A": "no 5", "prepare a": "no 7", "want " + hexOf("x"): "no 8", "write b /d x": "no 9", "commit a": "no 10",
	} {
		wantAnswer(t, line, impl.StepScript(x, line), scriptIs(x, said))
		wantAnswer(t, line+" in a script", impl.RunScript(x, line+"\n"+line+"\n"), scriptIs(x, said+"\n"+said+"\n"))
	}
}

// TestCrashOfOtherLogs: a log whose lines have a code or a Reply, be it of two digits: the store stays, and the code is said.
func TestCrashOfOtherLogs(t *testing.T) {
	for _, k := range []struct {
		lines []string
		code  int64
	}{
		{[]string{"wink"}, impl.ErrText}, {[]string{"again", "wink"}, impl.ErrText}, {[]string{"want 0"}, impl.ErrText}, {slices.Repeat([]string{"again"}, 61), impl.ErrMany}, {slices.Repeat([]string{"wink"}, 61), impl.ErrMany},
		{[]string{"commit a"}, impl.ErrNone}, {[]string{"prepare a", "prepare a"}, impl.ErrTaken}, {[]string{"prepare a", "commit a", "commit a"}, impl.ErrState}, {[]string{"prepare A"}, impl.ErrText}, {[]string{"prepare a", "mkdir a /d", "write a /d x"}, impl.ErrDir},
		{[]string{"prepare a", "mkdir a /d", "mkdir a /d/e", "rm a /d"}, impl.ErrForm}, {[]string{"commit a", "wink"}, impl.ErrNone}, {[]string{"wink", "commit a"}, impl.ErrText}, {[]string{"show"}, impl.ErrText}, {[]string{"sync"}, impl.ErrText},
	} {
		for _, at := range placesIn(len(k.lines)) {
			for _, x := range []impl.Store{{Log: logOf(k.lines[:at], k.lines[at:])}, {Snaps: fullStore().Snaps, Fetch: fullStore().Fetch, Log: logOf(k.lines[:at], k.lines[at:])}} {
				wantStepCode(t, x, "crash", k.code)
				wantAnswer(t, "crash in a script", wantRun(t, x, "crash\n crash "), scriptIs(x, fmt.Sprintf("! %d\n! %d\n", k.code, k.code)))
				wantSaid(t, x, "sync", "ok")
				wantStepCode(t, impl.SyncStore(x).Store, "crash", k.code)
			}
		}
	}
}

// TestCrashOfABase: a crash takes it, if nothing in the log hangs on it; else all stays.
func TestCrashOfABase(t *testing.T) {
	for _, layer := range [][]impl.Entry{fullLayer(1), fullLayer(12)} {
		x := impl.NewStore(layer).Store
		wantAnswer(t, "a base alone", wantSaid(t, x, "crash", "back"), impl.Store{})
		wantRunSays(t, x, "sync\ncrash\nshow\n", "ok\nback\nchunks 0 0 0\n")
		beside := storeBehind(x, "prepare a")
		wantAnswer(t, "beside a base", wantSaid(t, beside, "crash", "back"), syncStoreByHand(storeOf("prepare a")).Store)
		above := storeBehind(x, "prepare a base")
		wantStepCode(t, above, "crash", impl.ErrNone)
		wantRunSays(t, above, "crash\nshow", fmt.Sprintf("! 4\nsnap a base active free 0\nsnap base - done leased %d\nchunks 0 0 0\n", len(layer)))
		wantStepCode(t, storeBehind(x, "prepare q", "commit q", "free base"), "crash", impl.ErrNone)
	}
}

// TestCrashOfMoreLinesThanMayBeDone: scripts whose lines are 60 together, and one more.
func TestCrashOfMoreLinesThanMayBeDone(t *testing.T) {
	half := strings.Repeat("again\n", 30)
	x := wantRunSays(t, impl.Store{}, half, strings.Repeat("0 0\n", 30))
	x = wantRunSays(t, x, half+"sync\ncrash\n", strings.Repeat("0 0\n", 30)+"ok\nback\n")
	more := wantRunSays(t, x, "again\ncrash\nagain\nshow\n", "0 0\n! 2\n0 0\nchunks 0 0 0\n")
	if names := impl.ReadLines(slices.Concat(more.Log.Sure, more.Log.Loose)).Names; len(names) != 62 {
		t.Errorf("the log has %d lines", len(names))
	}
	wantRunSays(t, more, "sync\ncrash", "ok\n! 2\n")
}

// TestWholeLogInAScript: where there is no room for one more line, what is asked is still told, and what has no room has a code.
func TestWholeLogInAScript(t *testing.T) {
	taken := linesOfSize(2000)
	for _, at := range []int{0, 7, len(taken)} {
		x := storeOf("prepare a", "write a /f hello")
		x.Log = logOf(taken[:at], taken[at:])
		wantRunSays(t, x, "again\nshow\ncat a /f\nls a /\nsync\ncommit q\nwink\n\nagain\n", "! 2\nsnap a - active free 1\nchunks 1 0 0\nhello\nf\nok\n! 2\n! 5\n! 2\n")
	}
}

// TestSaysEndOnce: what ends with a line feed has no second one, what does not has one, and what is empty has none.
func TestSaysEndOnce(t *testing.T) {
	x := storeOf("prepare a", "mkdir a /d", "write a /e hello")
	for text, said := range map[string]string{
		"show": "snap a - active free 2\nchunks 1 0 0\n", "show\n": "snap a - active free 2\nchunks 1 0 0\n", "ls a /d": "", "ls a /d\n": "", "ls a /d\nls a /\n": "d e\n", "cat a /e": "hello\n", "cat a /e\n\n\ncat a /e": "hello\nhello\n",
		"show\nshow": "snap a - active free 2\nchunks 1 0 0\nsnap a - active free 2\nchunks 1 0 0\n", "wink\nwink": "! 5\n! 5\n", "commit q\ncommit q": "no 4\nno 4\n", "sync\nsync": "ok\nok\n", "crash\n crash": "back\nback\n", "again": "1 1\n",
	} {
		wantRunSays(t, x, text, said)
	}
}
