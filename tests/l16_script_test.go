package tests

import (
	"bytes"
	"cmp"
	"fmt"
	"maps"
	"slices"
	"strings"
	"testing"

	"loop.example/g00299/impl"
)

func scriptCode(code int64) impl.ScriptResult { return impl.ScriptResult{Code: code} }

func scriptIs(x impl.Store, said string) impl.ScriptResult {
	return impl.ScriptResult{Store: x, Said: said}
}

func textCode(code int64) impl.TextResult { return impl.TextResult{Code: code} }

func textIs(text string) impl.TextResult { return impl.TextResult{Text: text} }

func wordsByHand(line string) []string {
	return slices.DeleteFunc(strings.Split(line, " "), func(piece string) bool { return piece == "" })
}

func storeTextByHand(x impl.Store) impl.TextResult {
	if code := storeFaultByHand(x); code != impl.OK {
		return textCode(code)
	}
	text := ""
	for _, s := range x.Snaps {
		parent := "-"
		if s.Parent != "" {
			parent = s.Parent
		}
		kind := []string{1: "active", 2: "done"}[s.Kind]
		held := map[bool]string{true: "leased", false: "free"}[s.Lease]
		text += fmt.Sprintf("snap %s %s %s %s %d\n", s.Name, parent, kind, held, len(s.Layer))
	}
	return textIs(text + fmt.Sprintf("chunks %d %d %d\n", len(x.Fetch.Chunks), len(x.Fetch.Wants), len(x.Fetch.Failed)))
}

func lettersByHand(data string) string {
	if data == "" {
		return "-"
	}
	text := ""
	for i := range len(data) {
		if strings.Contains("abcdefghijklmnopqrstuvwxyz", data[i:i+1]) {
			text += data[i : i+1]
		} else {
			text += "."
		}
	}
	return text
}

func catByHand(x impl.Store, name string, p string) impl.TextResult {
	chain := chainByHand(x.Snaps, name)
	if code := cmp.Or(storeFaultByHand(x), chain.Code); code != impl.OK {
		return textCode(code)
	}
	read := readOverByHand(fileByHand(chain.Layers, x.Fetch.Chunks, p))
	if read.Code != impl.OK {
		return textCode(read.Code)
	}
	return textIs(lettersByHand(string(read.Bytes)))
}

func lsByHand(x impl.Store, name string, p string) impl.TextResult {
	chain := chainByHand(x.Snaps, name)
	if chain.Code != impl.OK {
		return textCode(chain.Code)
	}
	list := listOverByHand(chain.Layers, p)
	return impl.TextResult{Code: list.Code, Text: strings.Join(list.Names, " ")}
}

// stepByHand tells the commands of a script by their words with one blank between, and leaves all else to the model of the store.
func stepByHand(x impl.Store, line string) impl.ScriptResult {
	if code := storeFaultByHand(x); code != impl.OK {
		return scriptCode(code)
	}
	w := wordsByHand(line)
	told := impl.TextResult{}
	switch plain := strings.Join(w, " "); {
	case plain == "":
	case plain == "show":
		told = storeTextByHand(x)
	case len(w) == 3 && w[0] == "cat":
		told = catByHand(x, w[1], w[2])
	case len(w) == 3 && w[0] == "ls":
		told = lsByHand(x, w[1], w[2])
	case plain == "sync":
		return scriptIs(syncStoreByHand(x).Store, "ok")
	case plain == "crash":
		back := crashStoreByHand(x, int64(len(x.Log.Loose)))
		if code := cmp.Or(back.Code, back.Reply); code != impl.OK {
			return scriptCode(code)
		}
		return scriptIs(back.Store, "back")
	default:
		return doneByHand(x, line)
	}
	if told.Code != impl.OK {
		return scriptCode(told.Code)
	}
	return scriptIs(x, told.Text)
}

func doneByHand(x impl.Store, line string) impl.ScriptResult {
	done := doByHand(x, line)
	if done.Code != impl.OK {
		return scriptCode(done.Code)
	}
	if done.Reply != impl.OK {
		return scriptIs(x, fmt.Sprint("no ", done.Reply))
	}
	return scriptIs(done.Store, done.Said)
}

// linesOfText: what a line feed ends, and what is behind the last one, if it is not empty.
func linesOfText(text string) []string {
	lines := strings.Split(text, "\n")
	if last := len(lines) - 1; lines[last] == "" {
		lines = lines[:last]
	}
	return lines
}

func runByHand(x impl.Store, text string) impl.ScriptResult {
	if code := storeFaultByHand(x); code != impl.OK {
		return scriptCode(code)
	}
	lines := linesOfText(text)
	if len(text) > 1200 || len(lines) > 40 {
		return scriptCode(impl.ErrMany)
	}
	said := ""
	for _, line := range lines {
		step := stepByHand(x, line)
		switch {
		case step.Code != impl.OK:
			said += fmt.Sprintf("! %d\n", step.Code)
			continue
		case step.Said == "" || strings.HasSuffix(step.Said, "\n"):
			said += step.Said
		default:
			said += step.Said + "\n"
		}
		x = step.Store
	}
	return scriptIs(x, said)
}

func toldScript(r impl.ScriptResult) string {
	return fmt.Sprintf("code %d, said %q, %s", r.Code, r.Said, toldStore(r.Store))
}

// wantScript holds an answer against the model's, and asks what every answer owes: no fault.
func wantScript(t *testing.T, what func() string, got impl.ScriptResult, want impl.ScriptResult) {
	t.Helper()
	if got.Code != want.Code || got.Said != want.Said || !sameTexts(got.Store, want.Store) || !sameBytesOf(got.Store.Log, want.Store.Log) {
		t.Fatalf("%s: %s, not %s", what(), toldScript(got), toldScript(want))
	}
	if code := impl.StoreFault(got.Store); code != impl.OK {
		t.Fatalf("%s: the answer %s has the fault %d", what(), toldScript(got), code)
	}
}

func wantStepped(t *testing.T, x impl.Store, line string) impl.ScriptResult {
	t.Helper()
	got := impl.StepScript(x, line)
	wantScript(t, func() string { return fmt.Sprintf("StepScript of %s and %q", toldStore(x), line) }, got, stepByHand(x, line))
	return got
}

// wantSaid also asks for what is said by the text itself.
func wantSaid(t *testing.T, x impl.Store, line string, said string) impl.Store {
	t.Helper()
	got := wantStepped(t, x, line)
	if got.Code != impl.OK || got.Said != said {
		t.Fatalf("StepScript of %s and %q: code %d, said %q, not %q", toldStore(x), line, got.Code, got.Said, said)
	}
	return got.Store
}

func wantStepCode(t *testing.T, x impl.Store, line string, code int64) {
	t.Helper()
	wantAnswer(t, fmt.Sprintf("StepScript of %s and %q", toldStore(x), line), wantStepped(t, x, line), scriptCode(code))
}

func wantRun(t *testing.T, x impl.Store, text string) impl.ScriptResult {
	t.Helper()
	got := impl.RunScript(x, text)
	wantScript(t, func() string { return fmt.Sprintf("RunScript of %s and %q", toldStore(x), text) }, got, runByHand(x, text))
	return got
}

func wantRunSays(t *testing.T, x impl.Store, text string, said string) impl.Store {
	t.Helper()
	got := wantRun(t, x, text)
	if got.Code != impl.OK || got.Said != said {
		t.Fatalf("RunScript of %s and %q: code %d, said %q, not %q", toldStore(x), text, got.Code, got.Said, said)
	}
	return got.Store
}

// scriptText: the lines, each ended by a line feed.
func scriptText(lines ...string) string {
	text := ""
	for _, line := range lines {
		text += line + "\n"
	}
	return text
}

// baseStore: a store with a base, whose file has a chunk that is away.
func baseStore() impl.Store {
	return impl.NewStore(layerOf(dirAt("/d"), fileAt("/d/e", ""), fileAt("/d/f", "bases"))).Store
}

// fullStore: as many snapshots, chunks, wants and failed digests as may be; what is in their layers is there, but for one chunk.
func fullStore() impl.Store {
	texts := textsToFetch()
	return impl.Store{
		Snaps: snapsOf(
			leasedSnap(doneSnap("a", "", dirAt("/d"), fileAt("/d/f", texts[60]+texts[61]), fileAt("/g", texts[62]))), activeSnap("b", "a", fileAt("/g", texts[63])), doneSnap("c", "a", whiteAt("/g")),
			leasedSnap(activeSnap("d", "c", opaqueAt("/d"))), doneSnap("e", ""), activeSnap("f", "e", fullLayer(12)...), doneSnap("g", "", fileAt("/g", "away")),
			doneSnap("h", "g"), doneSnap("i", "h", dirAt("/d")), leasedSnap(doneSnap("j", "i", fullLayer(12)...)),
		),
		Fetch: impl.Fetch{Wants: wantsOf([]int64{0, 1, 2, 0, 1, 2, 0, 1, 2, 0, 1, 2}, texts[:12]...), Failed: digestsOfTexts(texts[20:60]...), Chunks: chunksOf(texts[60:100]...)},
	}
}

// storesToScript: the stores of the chapter ahead, and those that have a base or all that may be.
func storesToScript() []impl.Store {
	worked := storeBehind(baseStore(), "prepare a base", "write a /d/f bye", "want "+hexOf("bases"), "bring "+hexOf("bases")+" bases", "commit a", "prepare b a", "rm b /d/f")
	fetching, _ := commandsToAsk()
	stores := append(rightStores(), baseStore(), worked, syncStoreByHand(worked).Store, fullStore(), fetching, impl.NewStore(fullLayer(12)).Store)
	for i, list := range [][]impl.Snap{wrongFiles(), sharingSnaps(), endsOfDigests()} {
		for j, chunks := range chunkChoices() {
			stores = append(stores, impl.Store{Snaps: list, Fetch: impl.Fetch{Chunks: chunks}, Log: rightLogs()[i+j]})
		}
	}
	return stores
}

// stepsToAsk: each command of a script of what a store has and of what it has not, with blanks around it and with other words behind it.
func stepsToAsk(x impl.Store) []string {
	lines := []string{"", " ", "     ", "show", " show", "show ", "sync", "  sync  ", "crash", " crash ", "show x", "sync x", "crash 0", "cat", "ls", "Show", "shows", "show\t", "\tshow", "\n", "show\nshow", strings.Repeat(" ", 1000), "show" + strings.Repeat(" ", 1000)}
	names, paths, _, _ := wordsToAsk(x)
	for _, s := range x.Snaps {
		for _, e := range s.Layer {
			paths = append(paths, e.Path)
		}
	}
	for i, name := range names {
		lines = append(lines, "cat "+name, "ls "+name)
		for j, path := range paths {
			lines = append(lines, "cat "+name+" "+path, "ls "+name+" "+path)
			if (i+j)%5 == 0 {
				lines = append(lines, "  cat   "+name+"  "+path+" ", " ls  "+name+"   "+path, "cat "+name+" "+path+" x", "ls "+name+" "+path+" x", "cat "+path+" "+name)
			}
		}
	}
	for i, line := range linesToAsk(x) {
		if i%7 == 0 {
			lines = append(lines, line)
		}
	}
	return lines
}

// questions: what may be asked between the lines of a script, some of it wrong.
func questions() []string {
	return []string{
		"show", "cat a /f", "ls a /", "", "sync", "cat b /d/f", "wink", "ls b /d", "   ", "commit q", "crash", "cat q /f", "show", "ls a /d", "cat a /d", "prepare A", "ls q /", "cat b /g", "show x", "sync", "ls b /", "cat a", "crash", "\tshow", strings.Repeat("x", 61), "cat a /g", "ls a f",
	}
}

// fitting: as many of the lines as a script may have.
func fitting(lines []string) []string {
	for len(lines) > 40 || len(scriptText(lines...)) > 1200 {
		lines = lines[:len(lines)-1]
	}
	return lines
}

// scriptTexts: no line and empty ones, the lines of each store that was made line by line, and the same with questions between.
func scriptTexts() []string {
	texts := []string{"", "\n", " ", " \n", "\n\n", "\n \n", strings.Repeat("\n", 40), "show", "show\n", "\nshow", "\n\nshow\n\n\nshow\n\n", "show\nwink\nshow\ncommit a\nshow", "sync\ncrash\nsync\ncrash\n", scriptText(fitting(questions())...)}
	all := questions()
	for i, lines := range scriptsToDo() {
		texts = append(texts, strings.Join(lines, "\n"), scriptText(fitting(lines)...))
		for turn := range 2 {
			var mixed []string
			for j, line := range lines {
				mixed = append(mixed, line, all[(i*7+turn*11+2*j)%len(all)], all[(i*7+turn*11+2*j+1)%len(all)])
			}
			texts = append(texts, scriptText(fitting(mixed)...))
		}
	}
	return texts
}

func TestScriptBounds(t *testing.T) {
	if impl.MaxScript != 1200 || impl.MaxLines != 40 {
		t.Errorf("MaxScript %d, MaxLines %d", impl.MaxScript, impl.MaxLines)
	}
}

// TestScriptTextsAreWhatTheySay: none of them is too long, and they end in a line feed and not.
func TestScriptTextsAreWhatTheySay(t *testing.T) {
	ended, open, most := 0, 0, 0
	for _, text := range scriptTexts() {
		if len(text) > 1200 || len(linesOfText(text)) > 40 {
			t.Errorf("%q has %d bytes and %d lines", text, len(text), len(linesOfText(text)))
		}
		if strings.HasSuffix(text, "\n") {
			ended++
		} else {
			open++
		}
		if len(linesOfText(text)) == 40 {
			most++
		}
	}
	if ended < 20 || open < 10 || most < 1 {
		t.Errorf("%d texts end in a line feed, %d do not, %d have 40 lines", ended, open, most)
	}
	if f := fullStore(); impl.StoreFault(f) != impl.OK || len(f.Snaps) != 10 || len(f.Fetch.Wants) != 12 || len(f.Fetch.Failed) != 40 || len(f.Fetch.Chunks) != 40 {
		t.Errorf("the full store is %s, with the fault %d", toldStore(f), impl.StoreFault(f))
	}
}

// TestAllStoresAtAllSteps: each store with each line, and what it says.
func TestAllStoresAtAllSteps(t *testing.T) {
	said, codes := map[string]int{}, map[int64]int{}
	for _, x := range storesToScript() {
		for _, line := range stepsToAsk(x) {
			got := wantStepped(t, x, line)
			codes[got.Code]++
			if words := wordsByHand(line); got.Code == impl.OK && len(words) > 0 {
				said[words[0]]++
			}
		}
	}
	for _, word := range []string{"show", "cat", "ls", "sync", "crash", "prepare", "write", "want"} {
		if said[word] < 20 {
			t.Errorf("%s said something %d times", word, said[word])
		}
	}
	for _, code := range []int64{impl.ErrMany, impl.ErrNone, impl.ErrText, impl.ErrAway, impl.ErrDir} {
		if codes[code] < 20 {
			t.Errorf("the code %d came %d times", code, codes[code])
		}
	}
}

// TestTextsOfAllStores: what each store tells of itself, and of each of its files.
func TestTextsOfAllStores(t *testing.T) {
	codes := map[int64]int{}
	for _, x := range storesToScript() {
		wantAnswer(t, "StoreText of "+toldStore(x), impl.StoreText(x), storeTextByHand(x))
		for _, name := range append(namesIn(x.Snaps), "", "q", "Q", "abcde", "-") {
			for _, path := range append(pathsInSnaps(x.Snaps), "", "/", "/q", "/Q", "/abcde", "/a/b/c/d", "d") {
				got := impl.CatText(x, name, path)
				wantAnswer(t, fmt.Sprintf("CatText of %s, %q and %q", toldStore(x), name, path), got, catByHand(x, name, path))
				codes[got.Code]++
			}
		}
	}
	for _, code := range []int64{impl.OK, impl.ErrMany, impl.ErrNone, impl.ErrText, impl.ErrSum, impl.ErrAway, impl.ErrDir} {
		if codes[code] < 10 {
			t.Errorf("the code %d came %d times", code, codes[code])
		}
	}
}

func pathsInSnaps(list []impl.Snap) []string {
	paths := map[string]int{}
	for _, s := range list {
		for _, e := range s.Layer {
			paths[e.Path]++
		}
	}
	return slices.Sorted(maps.Keys(paths))
}

// TestAllScripts: each script in the empty store, and some of them in the others.
func TestAllScripts(t *testing.T) {
	stores := storesToScript()
	for i, text := range scriptTexts() {
		wantRun(t, impl.Store{}, text)
		for j, x := range stores {
			if (i+j)%4 == 0 {
				wantRun(t, x, text)
			}
		}
	}
}

// TestScriptIsItsSteps: what a script says is what its lines say, one behind the other, and so is the store.
func TestScriptIsItsSteps(t *testing.T) {
	stores := storesToScript()
	for i, text := range scriptTexts() {
		for _, x := range []impl.Store{{}, stores[i%len(stores)]} {
			whole, now, said := impl.RunScript(x, text), x, ""
			for _, line := range linesOfText(text) {
				step := impl.StepScript(now, line)
				if step.Code != impl.OK {
					said += fmt.Sprintf("! %d\n", step.Code)
					continue
				}
				now = step.Store
				if said += step.Said; step.Said != "" {
					said = strings.TrimSuffix(said, "\n") + "\n"
				}
			}
			if whole.Code != impl.OK || whole.Said != said || !impl.SameStores(whole.Store, now) || !sameBytesOf(whole.Store.Log, now.Log) {
				t.Fatalf("RunScript of %s and %q: %s, not %s, saying %q", toldStore(x), text, toldScript(whole), toldStore(now), said)
			}
		}
	}
}

// wantInTwoParts: the script, cut behind each of its line feeds.
func wantInTwoParts(t *testing.T, x impl.Store, text string) int {
	t.Helper()
	whole, cuts := impl.RunScript(x, text), 0
	for at := range len(text) {
		if text[at] != '\n' {
			continue
		}
		first := impl.RunScript(x, text[:at+1])
		second := impl.RunScript(first.Store, text[at+1:])
		if cuts++; first.Code != impl.OK || second.Code != impl.OK || first.Said+second.Said != whole.Said || told(second.Store) != told(whole.Store) {
			t.Fatalf("%q in %s, cut at %d: %s, then %s, not %s", text, toldStore(x), at, toldScript(first), toldScript(second), toldScript(whole))
		}
	}
	return cuts
}

func TestScriptsInTwoParts(t *testing.T) {
	cuts, stores := 0, storesToScript()
	for i, text := range scriptTexts() {
		cuts += wantInTwoParts(t, impl.Store{}, text)
		for j, x := range stores {
			if (i+j)%20 == 0 {
				cuts += wantInTwoParts(t, x, text)
			}
		}
	}
	if cuts < 2000 {
		t.Errorf("just %d cuts", cuts)
	}
}

// TestScriptsByNumberOfBytes: texts of each number of bytes about the bound, in one line and in several, and far above it.
func TestScriptsByNumberOfBytes(t *testing.T) {
	for _, n := range []int{0, 1, 2, 60, 61, 600, 1199, 1200, 1201, 1202, 2400, 1 << 16, 1<<16 + 1, 1<<16 + 1200, 1 << 20} {
		for what, text := range map[string]string{"blanks": strings.Repeat(" ", n), "letters": strings.Repeat("x", n), "30 bytes a line": strings.Repeat("again                        \n", n/30+1)[:n]} {
			got := wantRun(t, impl.Store{}, text)
			if n > 1200 {
				wantAnswer(t, fmt.Sprint(n, " bytes of ", what), got, scriptCode(impl.ErrMany))
				continue
			}
			said := ""
			switch {
			case what == "letters" && n > 60:
				said = "! 2\n"
			case what == "letters" && n > 0:
				said = "! 5\n"
			case what == "30 bytes a line" && n%30 > 0 && n%30 < 5:
				said = strings.Repeat("0 0\n", n/30) + "! 5\n"
			case what == "30 bytes a line":
				said = strings.Repeat("0 0\n", (n+29)/30)
			}
			if got.Code != impl.OK || got.Said != said {
				t.Errorf("%d bytes of %s: code %d, said %q, not %q", n, what, got.Code, got.Said, said)
			}
		}
	}
}

// TestScriptsByNumberOfLines: with and without a line feed behind the last line, which counts if it has a blank alone, too.
func TestScriptsByNumberOfLines(t *testing.T) {
	for n := range 50 {
		for _, line := range []string{"", " ", "again", "show", "wink", "commit q"} {
			said := strings.Repeat(map[string]string{"again": "0 0\n", "show": "chunks 0 0 0\n", "wink": "! 5\n", "commit q": "no 4\n"}[line], n)
			for _, end := range []string{"\n", ""} {
				lines := n
				if line == "" && end == "" && n > 0 {
					lines = n - 1
				}
				text := strings.TrimSuffix(strings.Repeat(line+"\n", n), "\n") + end
				if n == 0 {
					text = ""
				}
				if lines > 40 {
					wantAnswer(t, fmt.Sprintf("%d lines of %q, ended by %q", n, line, end), wantRun(t, impl.Store{}, text), scriptCode(impl.ErrMany))
				} else {
					wantRunSays(t, impl.Store{}, text, said)
				}
			}
		}
	}
	for _, behind := range []string{"a", " ", "\t", "\r", "show"} {
		wantAnswer(t, "40 line feeds and more", wantRun(t, impl.Store{}, strings.Repeat("\n", 40)+behind), scriptCode(impl.ErrMany))
		wantRun(t, impl.Store{}, strings.Repeat("\n", 39)+behind)
	}
	for _, n := range []int{41, 256, 256 + 40, 300, 1199, 1200} {
		wantAnswer(t, fmt.Sprint(n, " line feeds"), wantRun(t, impl.Store{}, strings.Repeat("\n", n)), scriptCode(impl.ErrMany))
	}
}

// TestScriptOfNothing: texts that say nothing leave a store as it is, with its log.
func TestScriptOfNothing(t *testing.T) {
	for _, x := range storesToScript() {
		for _, text := range []string{"", "\n", " ", " \n", "\n\n", "\n   \n \n", strings.Repeat("\n", 40), strings.Repeat(" ", 1200), strings.Repeat(" ", 1199) + "\n"} {
			wantAnswer(t, fmt.Sprintf("RunScript of %q", text), impl.RunScript(x, text), scriptIs(x, ""))
		}
		for _, line := range []string{"", " ", "  ", strings.Repeat(" ", 61), strings.Repeat(" ", 100000)} {
			wantAnswer(t, fmt.Sprintf("StepScript of %q", shortText(line)), impl.StepScript(x, line), scriptIs(x, ""))
		}
	}
}

// TestKnownScripts: what was worked out by hand.
func TestKnownScripts(t *testing.T) {
	wantRunSays(t, impl.Store{}, scriptText(
		"prepare a", "mkdir a /d", "write a /d/f hello", "write a /g bye", "commit a", "prepare b a", "cat b /d/f", "cat b /g",
		"rm b /g", "cat b /g", "cat a /g", "write b /d/f other", "cat b /d/f", "cat a /d/f", "ls b /", "ls a /", "ls b /d", "rm b /d/f", "ls b /d",
		"rm b /d", "mkdir b /d", "ls b /d", "cat b /d/f", "cat b /d", "ls b /g", "ls a /g", "show",
	), scriptText(
		"1 0", "1 0", "1 1", "1 2", "1 2", "2 2", "hello", "bye",
		"2 2", "! 4", "bye", "2 3", "other", "hello", "d", "d g", "f", "2 3",
		"2 3", "2 3", "! 4", "! 9", "! 4", "! 9", "snap a - done free 3", "snap b a active free 2", "chunks 3 0 0",
	))
	hello, x := hexOf("hello"), impl.NewStore(layerOf(fileAt("/f", "hello"))).Store
	wantRunSays(t, x, scriptText(
		"show", "cat base /f", "want "+hello, "show", "bring "+hello+" wrong", "bring "+hello+" hello", "cat base /f", "lose "+hello, "ls base /", "sync", "crash", "show", "cat base /f", "ls base /",
	), scriptText(
		"snap base - done leased 1", "chunks 0 0 0", "! 8", "1 0", "snap base - done leased 1", "chunks 0 1 0", "1 0", "1 1", "hello", "no 4", "f", "ok", "back", "chunks 1 0 0", "! 4", "! 4",
	))
	wantRunSays(t, impl.Store{}, scriptText(
		"commit a", "prepare A", "prepare a", "prepare a", "prepare b a", "wink", "", "show x", "cat", strings.Repeat("x", 61), "  ", "rm a /q", "mkdir a /d", "mkdir a /d/e", "rm a /d", "write a /d x", "write a /f "+strings.Repeat("y", 25),
		"want "+hello, "lose "+hello, "lose "+hello, "lose "+hello, "want "+hello, "show", "write a /f hello", "again", "write a /f hello", "lease a", "commit a", "commit a", "show",
	), scriptText(
		"no 4", "no 5", "1 0", "no 7", "no 10", "! 5", "! 5", "! 5", "! 2", "no 4", "1 0", "1 0", "no 1", "no 9", "no 2",
		"1 0", "1 0", "1 0", "1 0", "no 8", "snap a - active free 2", "chunks 0 0 1", "no 2", "1 0", "1 1", "1 1", "1 1", "no 10", "snap a - done leased 3", "chunks 1 0 0",
	))
	wantRunSays(t, impl.Store{}, "prepare a\n\n   \nwrite a /f x\ncommit a\nprepare b\n  ls   b  /  \nls a /\ncollect\nls a /\nshow", "1 0\n1 1\n1 1\n2 1\nf\n1 0\n! 4\nsnap b - active free 0\nchunks 0 0 0\n")
}

// TestCodeInTheMiddleOfAScript: a line with a code, or a Reply, at each place: all else is as if it were not there.
func TestCodeInTheMiddleOfAScript(t *testing.T) {
	lines, base := append(slices.Clone(scriptsToDo()[6]), "show", "cat b /g/h", "ls b /", "sync", "show"), baseStore()
	for at := range len(lines) + 1 {
		ahead, behind := scriptText(lines[:at]...), scriptText(lines[at:]...)
		plain := impl.RunScript(base, ahead+behind)
		saidAhead := impl.RunScript(base, ahead).Said
		for wrong, said := range map[string]string{
			"wink": "! 5", "show x": "! 5", "cat q /f": "! 4", "cat base /": "! 5", "ls base /abcde": "! 2", "cat base /d/f": "! 8", "cat base /d": "! 9", "ls base /d/e": "! 9", "ls base /e": "! 4",
			"want x": "! 5", lineOf(61, 1): "! 2", "again\t": "! 5", "\x7f": "! 5", "commit q": "no 4", "prepare A": "no 5", "commit base": "no 10", "remove base": "no 7",
		} {
			got := wantRun(t, base, ahead+wrong+"\n"+behind)
			if got.Said != saidAhead+said+"\n"+strings.TrimPrefix(plain.Said, saidAhead) || told(got.Store) != told(plain.Store) {
				t.Fatalf("%q at %d: %s, beside %s", wrong, at, toldScript(got), toldScript(plain))
			}
		}
	}
}

// TestQuestionsChangeNothing: what only asks leaves all as it was, the log too, and what syncs or crashes stands in no log.
func TestQuestionsChangeNothing(t *testing.T) {
	asked := map[string]int{}
	for _, x := range storesToScript() {
		lines := impl.ReadLines(slices.Concat(x.Log.Sure, x.Log.Loose)).Names
		for _, line := range stepsToAsk(x) {
			words := wordsByHand(line)
			got := impl.StepScript(x, line)
			if got.Code != impl.OK || len(words) == 0 {
				continue
			}
			switch words[0] {
			case "show", "cat", "ls":
				wantAnswer(t, line, got.Store, x)
			case "sync":
				wantAnswer(t, line, got.Store, impl.SyncStore(x).Store)
			case "crash":
				if len(got.Store.Log.Loose) != 0 || !slices.Equal(impl.ReadLines(got.Store.Log.Sure).Names, lines) {
					t.Fatalf("%q in %s: the log is %s", line, toldStore(x), toldLog(got.Store.Log))
				}
			default:
				continue
			}
			asked[words[0]]++
		}
	}
	for _, word := range []string{"show", "cat", "ls", "sync", "crash"} {
		if asked[word] < 20 {
			t.Errorf("%s was asked %d times", word, asked[word])
		}
	}
}

// TestCrashBehindSyncOfAScript: of a store that came of an empty one nothing goes, synced or not, as all Loose bytes are kept.
func TestCrashBehindSyncOfAScript(t *testing.T) {
	for i, text := range scriptTexts() {
		x := impl.RunScript(impl.Store{}, text).Store
		synced := wantSaid(t, x, "sync", "ok")
		back := wantSaid(t, synced, "crash", "back")
		if !impl.SameStores(x, synced) || told(synced) != told(back) || told(wantSaid(t, x, "crash", "back")) != told(back) || len(back.Log.Loose) != 0 {
			t.Fatalf("script %d: behind a crash there is %s, not %s", i, toldStore(back), toldStore(x))
		}
		if more := "sync\ncrash\nsync\nshow\ncrash\ncrash\nsync\n"; len(x.Log.Sure)+len(x.Log.Loose) > 0 {
			got := wantRunSays(t, x, more, "ok\nback\nok\n"+impl.StoreText(x).Text+"back\nback\nok\n")
			wantAnswer(t, "behind all of them", got, back)
		}
	}
}

// TestCatIsWhatIsRead: what is told of a file is told by the bytes that are read through the chain, and what is listed by the chain, too.
func TestCatIsWhatIsRead(t *testing.T) {
	read, listed := 0, 0
	for _, x := range storesToScript() {
		for _, s := range x.Snaps {
			layers := impl.ChainOf(x.Snaps, s.Name).Layers
			for _, path := range append(pathsInSnaps(x.Snaps), "/q", "/", "q") {
				bytesOf, cat := impl.ReadOver(layers, x.Fetch.Chunks, path), impl.CatText(x, s.Name, path)
				if cat.Code != bytesOf.Code || cat.Code == impl.OK && cat.Text != lettersByHand(string(bytesOf.Bytes)) {
					t.Fatalf("CatText of %s, %s and %s: %q with the code %d, not %q with the code %d", toldStore(x), s.Name, path, cat.Text, cat.Code, bytesOf.Bytes, bytesOf.Code)
				}
				step := impl.StepScript(x, "cat "+s.Name+" "+path)
				if step.Code != cat.Code || step.Said != cat.Text {
					t.Fatalf("cat %s %s in %s: %s, not %q with the code %d", s.Name, path, toldStore(x), toldScript(step), cat.Text, cat.Code)
				}
				names, ls := impl.ListOver(layers, path), impl.StepScript(x, "ls "+s.Name+" "+path)
				if ls.Code != names.Code || ls.Said != strings.Join(names.Names, " ") {
					t.Fatalf("ls %s %s in %s: %s, not %q with the code %d", s.Name, path, toldStore(x), toldScript(ls), names.Names, names.Code)
				}
				if cat.Code == impl.OK {
					read++
				}
				if ls.Code == impl.OK {
					listed++
				}
			}
		}
	}
	if read < 100 || listed < 400 {
		t.Errorf("%d files were read, and %d directories listed", read, listed)
	}
}

// numbersFrom: numbers below n, the same ones each time.
func numbersFrom(spread uint32) func(n int) int {
	return func(n int) int {
		spread = spread*1664525 + 1013904223
		return int(spread>>8) % n
	}
}

// someScript: lines of which many are done, with questions between.
func someScript(x impl.Store, next func(n int) int) []string {
	pick := func(list ...string) string { return list[next(len(list))] }
	names := append(namesIn(x.Snaps), "a", "b", "c")
	paths := []string{"/", "/a", "/b", "/a/b", "/a/c", "/a/b/c", "/b/a", "a"}
	var lines []string
	for range next(14) {
		blanks := pick("", "", "", " ", "   ")
		switch next(7) {
		case 0:
			lines = append(lines, blanks+pick("show", "show", "sync", "crash", "show x", "crash x", "sync x", "", " ")+blanks)
		case 1:
			lines = append(lines, "cat "+blanks+pick(names...)+" "+pick(paths...)+blanks)
		case 2:
			lines = append(lines, blanks+"ls "+pick(names...)+" "+blanks+pick(paths...))
		default:
			lines = append(lines, strings.ReplaceAll(someLine(x, next), "\n", "x"))
		}
	}
	return fitting(lines)
}

// TestManyScripts goes on from script to script, each of them also in two parts.
func TestManyScripts(t *testing.T) {
	next := numbersFrom(16)
	said := map[string]int{}
	for run := range 60 {
		x := impl.NewStore([][]impl.Entry{nil, layerOf(dirAt("/a"), fileAt("/a/b", "hello")), nil}[run%3]).Store
		for range 20 {
			text := scriptText(someScript(x, next)...)
			if next(3) == 0 {
				text = strings.TrimSuffix(text, "\n")
			}
			got := wantRun(t, x, text)
			if next(3) == 0 {
				wantInTwoParts(t, x, text)
			}
			for _, line := range linesOfText(got.Said) {
				said[line[:min(2, len(line))]]++
			}
			x = got.Store
		}
	}
	for _, begin := range []string{"! ", "no", "sn", "ch", "ok", "ba"} {
		if said[begin] < 50 {
			t.Errorf("%q was said %d times: %v", begin, said[begin], said)
		}
	}
}

// fileTale: what was written to a snapshot, path by path, told apart from layers and chunks.
type fileTale map[string]map[string]string

// hear takes a line that was done.
func (f fileTale) hear(words []string) {
	switch words[0] {
	case "prepare":
		f[words[1]] = map[string]string{}
		if len(words) > 2 {
			f[words[1]] = maps.Clone(f[words[2]])
		}
	case "remove":
		delete(f, words[1])
	case "write":
		f[words[1]][words[2]] = "file " + words[3]
	case "mkdir":
		f[words[1]][words[2]] = "dir"
	case "rm":
		delete(f[words[1]], words[2])
	}
}

// wantTold asks for each path of each snapshot what a script tells of it.
func (f fileTale) wantTold(t *testing.T, x impl.Store, paths []string) (told int) {
	t.Helper()
	if !slices.Equal(slices.Sorted(maps.Keys(f)), namesIn(x.Snaps)) {
		t.Fatalf("there are %q, not %v", namesIn(x.Snaps), f)
	}
	for name, files := range f {
		for _, path := range paths {
			got := impl.StepScript(x, "cat "+name+" "+path)
			data, isFile := strings.CutPrefix(files[path], "file ")
			switch {
			case isFile:
				told++
				if got.Code != impl.OK || got.Said != lettersByHand(data) {
					t.Fatalf("cat %s %s: %s, not %q", name, path, toldScript(got), data)
				}
			case files[path] == "dir":
				wantAnswer(t, "cat of a directory", got, scriptCode(impl.ErrDir))
			default:
				wantAnswer(t, "cat of what is not there", got, scriptCode(impl.ErrNone))
			}
		}
	}
	return told
}

// TestWhatAScriptTellsOfFiles: what was written last is told, in the snapshot and in those that stand on it, behind whatever else.
func TestWhatAScriptTellsOfFiles(t *testing.T) {
	next := numbersFrom(17)
	pick := func(list ...string) string { return list[next(len(list))] }
	paths := []string{"/a", "/b", "/a/a", "/a/b", "/a/a/a", "/a/a/b"}
	files := 0
	for range 80 {
		x, f := impl.Store{}, fileTale{}
		for range 60 {
			names := append(namesIn(x.Snaps), "a", "b", "c", "d", "e")
			line := pick("sync", "crash", "show", "again", "lease a", "free a", "prepare "+pick(names...), "remove "+pick(names...), "commit "+pick(names...), "commit "+pick(names...))
			switch next(8) {
			case 0:
				line = "prepare " + pick(names...) + " " + pick(names...)
			case 1, 2, 3:
				line = "write " + pick(names...) + " " + pick(paths...) + " " + pick("x", "hello", "12345678abcdefgh", "abcdefgh`{az", "zzzzzzzzyyyyyyyyxxxxxxxx")
			case 4:
				line = "mkdir " + pick(names...) + " " + pick(paths...)
			case 5:
				line = "rm " + pick(names...) + " " + pick(paths...)
			}
			got := wantRun(t, x, line)
			if x = got.Store; !strings.HasPrefix(got.Said, "no ") && !strings.HasPrefix(got.Said, "! ") {
				f.hear(strings.Split(line, " "))
			}
			files += f.wantTold(t, x, paths)
		}
	}
	if files < 1000 {
		t.Errorf("just %d files were told", files)
	}
}

// TestScriptsOfStoresFromNothing: behind every script the log tells what was done, and nothing else.
func TestScriptsOfStoresFromNothing(t *testing.T) {
	for _, text := range scriptTexts() {
		got := impl.RunScript(impl.Store{}, text)
		back := impl.ReplayLines(impl.ReadLines(slices.Concat(got.Store.Log.Sure, got.Store.Log.Loose)).Names)
		if got.Code != impl.OK || back.Code != impl.OK || back.Reply != impl.OK || !impl.SameStores(got.Store, back.Store) || !bytes.Equal(slices.Concat(got.Store.Log.Sure, got.Store.Log.Loose), back.Store.Log.Loose) {
			t.Fatalf("%q: %s, but its log comes to %s", text, toldScript(got), toldStoreResult(back))
		}
	}
}
