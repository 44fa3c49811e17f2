package tests

import (
	"fmt"
	"slices"
	"strings"
	"testing"

	"loop.example/g00299/impl"
)

// roomyStore: the same store with texts of its own, and room behind each of its lists, where an append would write.
func roomyStore(x impl.Store) impl.Store {
	return impl.Store{Snaps: roomySnaps(x.Snaps), Fetch: roomyFetch(x.Fetch), Log: roomyLog(x.Log)}
}

// oneListStore: layers that are one list, Bytes of chunks that are pieces of one list, and a log whose parts are one list, all of which an answer may not go on sharing.
func oneListStore() impl.Store {
	f := oneListFetch()
	return impl.Store{Snaps: oneLayerSnaps(), Fetch: f, Log: oneListLog(logOf([]string{"again", "collect"}, []string{"again", "prepare a", "collect"}))}
}

// fetchingStore: a store of each thing, in which each command may be done.
func fetchingStore() impl.Store {
	x, _ := commandsToAsk()
	x.Fetch.Failed = digestsOfTexts("failed", "gone")
	return x
}

func memoryStores() []impl.Store {
	var stores []impl.Store
	for i, x := range rightStores() {
		if i%3 == 0 {
			stores = append(stores, roomyStore(x))
		}
	}
	for i, f := range faultyStores() {
		if i%61 == 0 {
			stores = append(stores, roomyStore(f.store))
		}
	}
	empty := oneListStore()
	empty.Snaps, empty.Fetch.Wants, empty.Fetch.Failed, empty.Fetch.Chunks, empty.Log.Loose = empty.Snaps[:0], empty.Fetch.Wants[:0], empty.Fetch.Failed[:0], empty.Fetch.Chunks[:0], empty.Log.Loose[:0]
	return append(stores, impl.Store{}, oneListStore(), roomyStore(fetchingStore()), empty)
}

func storeCalls() []oneCall {
	var calls []oneCall
	_, lines := commandsToAsk()
	stores := memoryStores()
	for i, x := range stores {
		other := stores[(i*5+1)%len(stores)]
		add := func(name string, call func() any, arguments ...any) {
			calls = append(calls, oneCall{fmt.Sprint(name, " of store ", i), call, append(arguments, x)})
		}
		add("StoreFault", func() any { return impl.StoreFault(x) })
		add("SyncStore", func() any { return impl.SyncStore(x) })
		add("SameStores", func() any { return impl.SameStores(x, other) }, other)
		add("SameStores with itself", func() any { return impl.SameStores(x, x) })
		for _, kept := range []int64{-1, 0, 15, int64(len(x.Log.Loose)), int64(len(x.Log.Loose)) + 1} {
			add(fmt.Sprint("CrashStore with ", kept), func() any { return impl.CrashStore(x, kept) })
		}
		asked := append(slices.Clone(lines), "wink", "", " ", "commit q", lineOf(61, 1))
		for j, line := range linesToAsk(x) {
			if j%13 == i%13 {
				asked = append(asked, line)
			}
		}
		for _, line := range asked {
			add(fmt.Sprintf("DoLine %q", line), func() any { return impl.DoLine(x, line) })
		}
	}
	for i, script := range scriptsToDo() {
		for _, behind := range []string{"again", "wink", "commit q"} {
			given := roomyNames(append(slices.Clone(script), behind, "again"))
			calls = append(calls, oneCall{fmt.Sprint("ReplayLines ", i, behind), func() any { return impl.ReplayLines(given) }, []any{given}})
		}
	}
	for _, layer := range memoryLayersOver() {
		calls = append(calls, oneCall{"NewStore", func() any { return impl.NewStore(layer) }, []any{layer}})
	}
	calls = append(calls, oneCall{"ReplayLines of too many", func() any { return impl.ReplayLines(slices.Repeat([]string{"again"}, 61)) }, nil})
	return append(calls, oneCall{"ReplayLines of none", func() any { return impl.ReplayLines(nil) }, nil})
}

// TestStoreAnswersAreNewMemory also asks that each call comes back: a panic fails the test.
func TestStoreAnswersAreNewMemory(t *testing.T) {
	for _, c := range storeCalls() {
		askMemory(t, c)
	}
}

func TestStoreAnswersHangOnArgumentsAlone(t *testing.T) {
	askOrder(t, storeCalls())
}

func TestStoreAnswersAtOnce(t *testing.T) {
	askAtOnce(t, storeCalls())
}

// storesToAnswer: stores of which each list has something, in lists of their own and in one, whose logs come back.
func storesToAnswer() []impl.Store {
	return []impl.Store{roomyStore(fetchingStore()), oneListStore()}
}

// answersOfStore: one answer of each function that answers a store, and of DoLine one of each command, and one with a Reply.
func answersOfStore(x impl.Store, layer []impl.Entry, lines []string) []impl.StoreResult {
	answers := []impl.StoreResult{impl.NewStore(layer), impl.SyncStore(x), impl.CrashStore(x, 0), impl.CrashStore(x, int64(len(x.Log.Loose))), impl.ReplayLines(lines), impl.DoLine(x, "commit q")}
	_, commands := commandsToAsk()
	for _, line := range append(commands, "write e /g 12345678abcdefgh", "prepare new a", "rm q /a", "commit a") {
		answers = append(answers, impl.DoLine(x, line))
	}
	return answers
}

// argumentsToAnswer: a layer, and lines of which the last one has a Reply.
func argumentsToAnswer() ([]impl.Entry, []string) {
	return oneListLayer(), roomyNames(append(slices.Clone(scriptsToDo()[6]), "want "+hexOf("later"), "commit q"))
}

func TestStoreAnswersShowSomething(t *testing.T) {
	layer, lines := argumentsToAnswer()
	for i, x := range storesToAnswer() {
		done, snaps, chunks, wants, failed, replies := 0, 0, 0, 0, 0, 0
		for at, got := range answersOfStore(x, layer, lines) {
			if got.Code != impl.OK {
				t.Errorf("store %d, answer %d: %s", i, at, toldStoreResult(got))
			}
			snaps, chunks, wants, failed = snaps+len(got.Store.Snaps), chunks+len(got.Store.Fetch.Chunks), wants+len(got.Store.Fetch.Wants), failed+len(got.Store.Fetch.Failed)
			if got.Reply == impl.OK {
				done++
			} else {
				replies++
			}
		}
		if done < 10 || replies < 2 || snaps < 40 || chunks < 20 || wants < 20 || failed < 20 {
			t.Errorf("store %d: %d done, %d with a Reply, %d snapshots, %d chunks, %d wants, %d failed", i, done, replies, snaps, chunks, wants, failed)
		}
	}
}

func toldStores(answers []impl.StoreResult) string {
	var text strings.Builder
	for _, got := range answers {
		text.WriteString(toldStoreResult(got) + "\n")
	}
	return text.String()
}

// overStore writes over all that a store has, to the capacity of its lists.
func overStore(x impl.Store) {
	for i := range x.Snaps {
		overSnap(&x.Snaps[i])
	}
	clear(x.Snaps[:cap(x.Snaps)])
	clear(x.Fetch.Wants[:cap(x.Fetch.Wants)])
	clear(x.Fetch.Failed[:cap(x.Fetch.Failed)])
	for _, c := range x.Fetch.Chunks {
		fill(c.Bytes, 0xee)
	}
	clear(x.Fetch.Chunks[:cap(x.Fetch.Chunks)])
	fill(x.Log.Sure, 0xee)
	fill(x.Log.Loose, 0xee)
}

// TestStoresOutliveTheArguments writes over all that was handed in, and asks the answers again.
func TestStoresOutliveTheArguments(t *testing.T) {
	for i := range storesToAnswer() {
		x := storesToAnswer()[i]
		layer, lines := argumentsToAnswer()
		answers := answersOfStore(x, layer, lines)
		before := toldStores(answers)
		overStore(x)
		wipe(layer)
		clear(lines[:cap(lines)])
		if toldStores(answers) != before {
			t.Fatalf("store %d: an answer turned with its arguments", i)
		}
	}
}

// listsToTurn: how one list of a store is written over, to its capacity, and taken out of it.
func listsToTurn(x impl.Store) []func(x *impl.Store) {
	overs := []func(x *impl.Store){
		func(x *impl.Store) { clear(x.Fetch.Wants[:cap(x.Fetch.Wants)]); x.Fetch.Wants = nil },
		func(x *impl.Store) { clear(x.Fetch.Failed[:cap(x.Fetch.Failed)]); x.Fetch.Failed = nil },
		func(x *impl.Store) { clear(x.Fetch.Chunks[:cap(x.Fetch.Chunks)]); x.Fetch.Chunks = nil },
		func(x *impl.Store) { fill(x.Log.Sure, 0xee); x.Log.Sure = nil },
		func(x *impl.Store) { fill(x.Log.Loose, 0xee); x.Log.Loose = nil },
		func(x *impl.Store) { clear(x.Snaps[:cap(x.Snaps)]); x.Snaps = nil },
	}
	for i := range x.Snaps {
		overs = append(overs, func(x *impl.Store) { overSnap(&x.Snaps[i]) })
	}
	for i := range x.Fetch.Chunks {
		overs = append(overs, func(x *impl.Store) { fill(x.Fetch.Chunks[i].Bytes, 0xee); x.Fetch.Chunks[i].Bytes = nil })
	}
	return overs
}

// bareOf takes the same list out of a store without writing over it, so that nothing else can have turned with it.
func bareOf(x impl.Store, at int) impl.Store {
	x = roomyStore(x)
	chunks := at - 6 - len(x.Snaps)
	switch {
	case at == 0:
		x.Fetch.Wants = nil
	case at == 1:
		x.Fetch.Failed = nil
	case at == 2:
		x.Fetch.Chunks = nil
	case at == 3:
		x.Log.Sure = nil
	case at == 4:
		x.Log.Loose = nil
	case at == 5:
		x.Snaps = nil
	case chunks < 0:
		x.Snaps[at-6] = impl.Snap{}
	default:
		x.Fetch.Chunks[chunks].Bytes = nil
	}
	return x
}

// TestListsOfOneStoreAreTheirOwn writes over one list of an answer, and asks the other lists, the arguments, and another call.
func TestListsOfOneStoreAreTheirOwn(t *testing.T) {
	layer, lines := argumentsToAnswer()
	for i, x := range storesToAnswer() {
		arguments := []any{x.Snaps, x.Fetch, x.Log, layer, lines}
		before, again := wholeMemory(arguments), answersOfStore(x, layer, lines)
		want := toldStores(again)
		for at := range again {
			for one := range listsToTurn(again[at].Store) {
				got := answersOfStore(x, layer, lines)[at].Store
				left := bareOf(got, one)
				listsToTurn(got)[one](&got)
				if toldStore(got) != toldStore(left) {
					t.Fatalf("store %d, answer %d: another list turned with list %d", i, at, one)
				}
			}
		}
		if wholeMemory(arguments) != before || toldStores(again) != want || toldStores(answersOfStore(x, layer, lines)) != want {
			t.Fatalf("store %d: an argument, or another answer, turned with an answer", i)
		}
	}
}

// TestTextsOfStoresShareNoMemory asks by addresses, as a text that is the argument's reads like a copy.
func TestTextsOfStoresShareNoMemory(t *testing.T) {
	for i, x := range storesToAnswer() {
		layer, lines := roomyLayer(fullLayer(12)), roomyNames(scriptsToDo()[6])
		line := strings.Clone("write b /d/g hello")
		prepare := strings.Clone("prepare newn  a")
		arguments := slices.Concat(textsOfSnaps(x.Snaps), pathsIn(layer), lines, []string{line, prepare})
		answers := append(answersOfStore(x, layer, lines), impl.DoLine(x, line), impl.DoLine(x, prepare))
		for at, got := range answers {
			wantOwnSpans(t, fmt.Sprint("store ", i, ", answer ", at), append(textsOfSnaps(got.Store.Snaps), got.Said), arguments)
		}
	}
}

// TestStoresOfOtherCapacity: what stands behind the end of a list is not seen.
func TestStoresOfOtherCapacity(t *testing.T) {
	for _, x := range rightStores() {
		other := roomyStore(x)
		other.Log = oneListLog(x.Log)
		if !impl.SameStores(x, other) || impl.StoreFault(x) != impl.StoreFault(other) {
			t.Fatalf("%s hangs on its capacity", toldStore(x))
		}
		wantAnswer(t, "SyncStore", impl.SyncStore(other), impl.SyncStore(x))
		for _, line := range []string{"again", "collect", "prepare new", "wink"} {
			wantAnswer(t, line, impl.DoLine(other, line), impl.DoLine(x, line))
		}
		wantAnswer(t, "CrashStore", impl.CrashStore(other, int64(len(x.Log.Loose))/2), impl.CrashStore(x, int64(len(x.Log.Loose))/2))
	}
}
