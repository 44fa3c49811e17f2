package tests

import (
	"fmt"
	"slices"
	"strings"
	"testing"

	"loop.example/g00299/impl"
)

// faultyStore: a store with a fault, and the code of the first one in the document's order.
type faultyStore struct {
	name  string
	store impl.Store
	code  int64
}

// faultyParts: what may be wrong with one part of a store, each with its code.
func faultyParts() (snaps []faultyStore, fetches []faultyStore, logs []faultyStore) {
	for _, f := range faultySnapLists() {
		snaps = append(snaps, faultyStore{f.name, impl.Store{Snaps: f.list}, f.code})
	}
	for _, f := range faultyFetches() {
		fetches = append(fetches, faultyStore{f.name, impl.Store{Fetch: f.f}, f.code})
	}
	for _, f := range faultyLogs() {
		logs = append(logs, faultyStore{f.name, impl.Store{Log: f.log}, f.code})
	}
	return snaps, fetches, logs
}

// faultyStores: each fault alone in a store that is else right, and in one of nothing.
func faultyStores() []faultyStore {
	right := storeParted(2, scriptsToDo()[6]...)
	snaps, fetches, logs := faultyParts()
	var list []faultyStore
	for _, f := range snaps {
		list = append(list, f, faultyStore{f.name, impl.Store{Snaps: f.store.Snaps, Fetch: right.Fetch, Log: right.Log}, f.code})
	}
	for _, f := range fetches {
		list = append(list, f, faultyStore{f.name, impl.Store{Snaps: right.Snaps, Fetch: f.store.Fetch, Log: right.Log}, f.code})
	}
	for _, f := range logs {
		list = append(list, f, faultyStore{f.name, impl.Store{Snaps: right.Snaps, Fetch: right.Fetch, Log: f.store.Log}, f.code})
	}
	return list
}

// twiceFaultyStores: two parts that are wrong, or all three, each fault of one with some of the others.
func twiceFaultyStores() []faultyStore {
	right := storeParted(2, scriptsToDo()[6]...)
	snaps, fetches, logs := faultyParts()
	var list []faultyStore
	for i := range max(len(snaps), len(fetches), len(logs)) {
		for turn := range 3 {
			s, f, l := snaps[(i+turn*7)%len(snaps)], fetches[(i+turn*5)%len(fetches)], logs[(i+turn*3)%len(logs)]
			name := fmt.Sprint(s.name, ", ", f.name, ", ", l.name)
			list = append(list,
				faultyStore{name, impl.Store{Snaps: s.store.Snaps, Fetch: f.store.Fetch, Log: right.Log}, s.code},
				faultyStore{name, impl.Store{Snaps: s.store.Snaps, Fetch: right.Fetch, Log: l.store.Log}, s.code},
				faultyStore{name, impl.Store{Snaps: right.Snaps, Fetch: f.store.Fetch, Log: l.store.Log}, f.code},
				faultyStore{name, impl.Store{Snaps: s.store.Snaps, Fetch: f.store.Fetch, Log: l.store.Log}, s.code},
			)
		}
	}
	return list
}

func TestStoreFault(t *testing.T) {
	codes := map[int64]int{}
	for _, f := range faultyStores() {
		if code := impl.StoreFault(f.store); code != f.code {
			t.Errorf("%s: StoreFault %d, not %d", f.name, code, f.code)
		}
		if code := storeFaultByHand(f.store); code != f.code {
			t.Errorf("%s: the test itself says %d and %d", f.name, code, f.code)
		}
		codes[f.code]++
	}
	for _, code := range []int64{impl.ErrForm, impl.ErrMany, impl.ErrRange, impl.ErrNone, impl.ErrText, impl.ErrSum, impl.ErrTaken, impl.ErrDir, impl.ErrState} {
		if codes[code] < 2 {
			t.Errorf("the code %d is of %d stores", code, codes[code])
		}
	}
}

// TestTwoFaultsOfStores: that of the snapshots comes ahead of that of the fetch, and that one ahead of that of the log.
func TestTwoFaultsOfStores(t *testing.T) {
	other := 0
	for _, f := range twiceFaultyStores() {
		if code := impl.StoreFault(f.store); code != f.code {
			t.Fatalf("%s: StoreFault %d, not %d", f.name, code, f.code)
		}
		if impl.LogFault(f.store.Log) != f.code && impl.FetchFault(f.store.Fetch) != f.code {
			other++
		}
	}
	if other < 100 {
		t.Errorf("just %d stores show the order", other)
	}
}

// wantAllStoreCode: each function that takes a store, with what is right beside it and with what is wrong.
func wantAllStoreCode(t *testing.T, f faultyStore) {
	t.Helper()
	want := storeCode(f.code)
	wantAnswer(t, f.name+": SyncStore", impl.SyncStore(f.store), want)
	for _, line := range []string{"again", "prepare new", "wink", "", "\x1f", lineOf(61, 1), "commit q", "want x"} {
		wantAnswer(t, fmt.Sprintf("%s: DoLine of %q", f.name, line), impl.DoLine(f.store, line), want)
	}
	loose := int64(len(f.store.Log.Loose))
	for _, kept := range []int64{0, loose, -1, loose + 1, 1 << 40} {
		wantAnswer(t, fmt.Sprint(f.name, ": CrashStore of ", kept), impl.CrashStore(f.store, kept), want)
	}
}

func TestFaultOfTheStoreComesFirst(t *testing.T) {
	for _, f := range faultyStores() {
		wantAllStoreCode(t, f)
	}
	for i, f := range twiceFaultyStores() {
		if i%5 == 0 {
			wantAllStoreCode(t, f)
		}
	}
}

func TestFaultOfTheLayerOfANewStore(t *testing.T) {
	for _, f := range faultyLayers() {
		wantAnswer(t, f.name, impl.NewStore(f.layer), storeCode(f.code))
		wantAnswer(t, f.name+", by the model", newByHand(f.layer), storeCode(f.code))
	}
}

// TestLinesThatAreNone: the LineFault, whether their words would be a command or not, and whether there is room or not.
func TestLinesThatAreNone(t *testing.T) {
	taken := linesOfSize(2000)
	full := storeOf("prepare a")
	full.Log = logOf(taken[:3], taken[3:])
	lines := append(noLines(), "again"+strings.Repeat(" ", 56), strings.Repeat(" ", 56)+"again", strings.Repeat(" ", 61), "again\n", "\nagain", "prepare\tb", "commit a\x7f", "commit a\x00", "write a /f é", "prepare a"+strings.Repeat(" ", 300))
	for _, line := range lines {
		want := int64(impl.ErrText)
		if line == "" || len(line) > 60 {
			want = impl.ErrMany
		}
		for _, x := range []impl.Store{{}, full, storeParted(3, scriptsToDo()[5]...)} {
			wantCodeOfLine(t, x, line, want)
		}
	}
	wantReply(t, impl.Store{}, "again"+strings.Repeat(" ", 55), impl.OK)
}

// TestOrderOfTheCodesOfALine: what is no line ahead of what is no command, that ahead of no room, and that ahead of any Reply.
func TestOrderOfTheCodesOfALine(t *testing.T) {
	taken := linesOfSize(2000)
	for _, at := range []int{0, 5, len(taken)} {
		full := storeOf("prepare a")
		full.Log = logOf(taken[:at], taken[at:])
		wantCodeOfLine(t, full, "wink\x7f", impl.ErrText)
		wantCodeOfLine(t, full, lineOf(61, 1), impl.ErrMany)
		wantCodeOfLine(t, full, "wink", impl.ErrText)
		wantCodeOfLine(t, full, "want 123", impl.ErrText)
		wantCodeOfLine(t, full, " ", impl.ErrText)
		for _, line := range []string{"again", "prepare a", "prepare A", "commit q", "write q /f x", "rm a /q", "lose " + hexOf("x"), "write a /f " + strings.Repeat("x", 25)} {
			wantCodeOfLine(t, full, line, impl.ErrMany)
			roomy := full
			roomy.Log = impl.Log{}
			if got := impl.DoLine(roomy, line); got.Code != impl.OK || line != "again" && got.Reply == impl.OK {
				t.Errorf("%q where there is room: %s", line, toldStoreResult(got))
			}
		}
	}
}

// TestCodesOfCrashesInOrder: kept ahead of what the lines come to, and too many lines ahead of what each of them comes to.
func TestCodesOfCrashesInOrder(t *testing.T) {
	for _, lines := range [][]string{{"wink"}, {"commit q"}, slices.Repeat([]string{"again"}, 61), slices.Repeat([]string{"wink"}, 61)} {
		x := impl.Store{Log: logOf(lines[:1], lines[1:])}
		for _, kept := range placesThatAreNone(x.Log) {
			wantAnswer(t, fmt.Sprintf("%q with %d kept", lines[0], kept), impl.CrashStore(x, kept), storeCode(impl.ErrRange))
		}
	}
	for _, line := range []string{"wink", "commit q", "again"} {
		x := impl.Store{Log: logOf(slices.Repeat([]string{line}, 30), slices.Repeat([]string{line}, 31))}
		wantAnswer(t, "61 lines of "+line, wantCrashedStore(t, x, int64(len(x.Log.Loose))), storeCode(impl.ErrMany))
	}
	long := "again" + strings.Repeat(" ", 55)
	x := impl.Store{Log: logOf(slices.Repeat([]string{long}, 15), slices.Repeat([]string{long}, 15))}
	if got := wantCrashedStore(t, x, int64(len(x.Log.Loose))); got.Code != impl.OK || len(got.Store.Log.Sure) != 65*30 {
		t.Errorf("30 long lines: %s", toldStoreResult(got))
	}
}
