package tests

import (
	"fmt"
	"slices"
	"strings"
	"testing"

	"loop.example/g00299/impl"
)

func textsOfMemory() []string {
	texts := []string{"", "\n", "show", "wink\nshow\n", strings.Repeat("\n", 41), strings.Repeat(" ", 1201), "sync\ncrash\nshow", "crash\nwrite a /z hello\ncat a /z\nls a /\n"}
	for i, text := range scriptTexts() {
		if i%9 == 0 {
			texts = append(texts, text)
		}
	}
	return texts
}

func scriptCalls() []oneCall {
	var calls []oneCall
	for i, x := range append(memoryStores(), roomyStore(fullStore()), roomyStore(storeToCat()), roomyStore(baseStore())) {
		add := func(name string, call func() any) {
			calls = append(calls, oneCall{fmt.Sprint(name, " of store ", i), call, []any{x}})
		}
		add("StoreText", func() any { return impl.StoreText(x) })
		for j, name := range append(namesIn(x.Snaps), "q", "") {
			for k, path := range append(pathsInSnaps(x.Snaps), "/", "/q") {
				if (i+j+k)%4 == 0 {
					add(fmt.Sprintf("CatText %q %q", name, path), func() any { return impl.CatText(x, name, path) })
				}
			}
		}
		for j, line := range stepsToAsk(x) {
			if (i+j)%5 == 0 {
				add(fmt.Sprintf("StepScript %q", shortText(line)), func() any { return impl.StepScript(x, line) })
			}
		}
		for _, line := range []string{"", "show", "sync", "crash", "ls a /", "cat a /f", "again", "commit q", "wink"} {
			add(fmt.Sprintf("StepScript %q", line), func() any { return impl.StepScript(x, line) })
		}
		for _, text := range textsOfMemory() {
			add(fmt.Sprintf("RunScript %q", shortText(text)), func() any { return impl.RunScript(x, text) })
		}
	}
	for _, line := range []string{"", " ", "a", " a  b ", "show", strings.Repeat(" a", 3000), strings.Repeat("a", 3000), "\xff \x00", strings.Repeat(" ", 3000), "write a /f hello\n"} {
		calls = append(calls, oneCall{fmt.Sprintf("WordsOf %q", shortText(line)), func() any { return impl.WordsOf(line) }, nil})
	}
	return calls
}

// TestScriptAnswersAreNewMemory also asks that each call comes back: a panic fails the test.
func TestScriptAnswersAreNewMemory(t *testing.T) {
	for _, c := range scriptCalls() {
		askMemory(t, c)
	}
}

func TestScriptAnswersHangOnArgumentsAlone(t *testing.T) {
	askOrder(t, scriptCalls())
}

func TestScriptAnswersAtOnce(t *testing.T) {
	var some []oneCall
	for i, c := range scriptCalls() {
		if i%7 == 0 {
			some = append(some, c)
		}
	}
	askAtOnce(t, some)
}

// linesToAnswer: one line of each kind that has no code in the stores of storesToAnswer, and one with a Reply.
func linesToAnswer() []string {
	_, commands := commandsToAsk()
	return append(commands, "", "   ", "show", "sync", "crash", "ls a /", "commit q")
}

// answersOfScript: the store behind each line, alone and in a script, and behind scripts of some lines.
func answersOfScript(x impl.Store) []impl.ScriptResult {
	var answers []impl.ScriptResult
	for _, line := range linesToAnswer() {
		answers = append(answers, impl.StepScript(x, line), impl.RunScript(x, line))
	}
	for _, text := range []string{"", "\n\n", "wink\n", "wink\ncommit q\nshow x\n", "show\ncat q /f\nls q /\n", "again\nwink\ncrash\nsync\n", "prepare new\nwrite new /f 12345678abcdefgh\ncommit new\nlease new\nsync\n"} {
		answers = append(answers, impl.RunScript(x, text))
	}
	return answers
}

func toldScripts(answers []impl.ScriptResult) string {
	var text strings.Builder
	for _, got := range answers {
		text.WriteString(toldScript(got) + "\n")
	}
	return text.String()
}

// answersWithAStore leaves out those with a code, which have no store, as some commands have one in one of the stores.
func answersWithAStore(x impl.Store) []impl.ScriptResult {
	return slices.DeleteFunc(answersOfScript(x), func(got impl.ScriptResult) bool { return got.Code != impl.OK })
}

func TestScriptAnswersShowSomething(t *testing.T) {
	for i, x := range storesToAnswer() {
		done, snaps, chunks, wants, failed := 0, 0, 0, 0, 0
		for _, got := range answersWithAStore(x) {
			done, snaps, chunks, wants, failed = done+1, snaps+len(got.Store.Snaps), chunks+len(got.Store.Fetch.Chunks), wants+len(got.Store.Fetch.Wants), failed+len(got.Store.Fetch.Failed)
		}
		if done < 40 || snaps < 80 || chunks < 40 || wants < 40 || failed < 40 {
			t.Errorf("store %d: %d answers, %d snapshots, %d chunks, %d wants, %d failed", i, done, snaps, chunks, wants, failed)
		}
	}
}

// TestScriptsOutliveTheArguments writes over all that was handed in, and asks the answers again.
func TestScriptsOutliveTheArguments(t *testing.T) {
	for i := range storesToAnswer() {
		x := storesToAnswer()[i]
		answers := answersOfScript(x)
		before := toldScripts(answers)
		overStore(x)
		if toldScripts(answers) != before {
			t.Fatalf("store %d: an answer turned with its arguments", i)
		}
	}
	for _, x := range []impl.Store{roomyStore(fullStore()), roomyStore(storeWithFile("hello")), oneListStore()} {
		text, cat := impl.StoreText(x).Text, impl.CatText(x, "a", "/f").Text
		toldText, toldCat := strings.Clone(text), strings.Clone(cat)
		overStore(x)
		if text != toldText || cat != toldCat {
			t.Fatalf("a text turned with its arguments: %q and %q", text, cat)
		}
	}
}

// TestListsOfOneScriptAreTheirOwn writes over one list of an answer, and asks the other lists, the arguments, and another call.
func TestListsOfOneScriptAreTheirOwn(t *testing.T) {
	for i, x := range storesToAnswer() {
		before, again := wholeMemory(x), answersWithAStore(x)
		want := toldScripts(again)
		for at := range again {
			for one := range listsToTurn(again[at].Store) {
				got := answersWithAStore(x)[at].Store
				left := bareOf(got, one)
				listsToTurn(got)[one](&got)
				if toldStore(got) != toldStore(left) {
					t.Fatalf("store %d, answer %d: another list turned with list %d", i, at, one)
				}
			}
		}
		if wholeMemory(x) != before || toldScripts(again) != want || toldScripts(answersWithAStore(x)) != want {
			t.Fatalf("store %d: an argument, or another answer, turned with an answer", i)
		}
	}
}

// TestWordsOfOneLineAreTheirOwn writes over the words of one answer, and asks another one.
func TestWordsOfOneLineAreTheirOwn(t *testing.T) {
	line := "write a /f hello"
	first, second := impl.WordsOf(line), impl.WordsOf(line)
	clear(first.Names[:cap(first.Names)])
	wantAnswer(t, "the other answer", second, impl.NamesResult{Names: []string{"write", "a", "/f", "hello"}})
	wantAnswer(t, "one more answer", impl.WordsOf(line), second)
}

// TestTextsOfScriptsShareNoMemory asks by addresses, as a text that is the argument's reads like a copy.
func TestTextsOfScriptsShareNoMemory(t *testing.T) {
	for _, line := range []string{"a", "write a /f hello", "  a  b ", strings.Repeat("word ", 40)} {
		own := strings.Clone(line)
		wantOwnSpans(t, fmt.Sprintf("WordsOf %q", line), impl.WordsOf(own).Names, []string{own})
	}
	for i, x := range append(storesToAnswer(), roomyStore(fullStore()), roomyStore(baseStore())) {
		arguments := textsOfSnaps(x.Snaps)
		wantOwnSpans(t, fmt.Sprint("StoreText of store ", i), []string{impl.StoreText(x).Text}, arguments)
		for _, name := range namesIn(x.Snaps) {
			for _, line := range []string{"ls " + name + " /", "ls " + name + " /d", "cat " + name + " /d/f", "show", "again", "prepare newn " + name, "mkdir " + name + " /zzz", "write " + name + " /zz hellotoo"} {
				one, two := strings.Clone(line), strings.Clone(line+"\nshow\n"+line+"\n")
				for _, got := range []impl.ScriptResult{impl.StepScript(x, one), impl.RunScript(x, two)} {
					wantOwnSpans(t, fmt.Sprintf("%q in store %d", line, i), append(textsOfSnaps(got.Store.Snaps), got.Said), slices.Concat(arguments, []string{one, two}))
				}
			}
		}
	}
}

// TestScriptsOfOtherCapacity: what stands behind the end of a list is not seen.
func TestScriptsOfOtherCapacity(t *testing.T) {
	for _, x := range storesToScript() {
		other := roomyStore(x)
		other.Log = oneListLog(x.Log)
		wantAnswer(t, "StoreText", impl.StoreText(other), impl.StoreText(x))
		for _, text := range []string{"", "show\n", "sync\nagain\ncrash\nshow\n", "prepare new\nwrite new /f x\nls new /\ncat new /f\n"} {
			wantAnswer(t, fmt.Sprintf("RunScript of %q", text), impl.RunScript(other, text), impl.RunScript(x, text))
		}
	}
}
