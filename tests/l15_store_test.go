package tests

import (
	"bytes"
	"cmp"
	"fmt"
	"maps"
	"regexp"
	"slices"
	"strconv"
	"strings"
	"testing"

	"loop.example/g00299/impl"
)

// deedByHand: what the model makes of a store by the words behind the first one, or a Reply.
type deedByHand func(x impl.Store, w []string) (impl.Store, int64)

// commandByHand: how a command is written, and what it does.
type commandByHand struct {
	form *regexp.Regexp
	do   deedByHand
}

func commandForm(word string, behind ...string) *regexp.Regexp {
	return regexp.MustCompile(`^ *` + strings.Join(append([]string{word}, behind...), " +") + ` *$`)
}

const anyWord, hexWord = `([^ ]+)`, `([0-9a-f]{8})`

// commandsByHand reads lines by their form as a whole, and no word by word.
var commandsByHand = []commandByHand{
	{commandForm("prepare", anyWord), snapDeed(func(list []impl.Snap, w []string) impl.SnapsResult { return growByHand(list, activeSnap(w[0], "")) })},
	{commandForm("prepare", anyWord, anyWord), snapDeed(func(list []impl.Snap, w []string) impl.SnapsResult { return growByHand(list, activeSnap(w[0], w[1])) })},
	{commandForm("commit", anyWord), snapDeed(func(list []impl.Snap, w []string) impl.SnapsResult { return commitByHand(list, w[0]) })},
	{commandForm("remove", anyWord), snapDeed(func(list []impl.Snap, w []string) impl.SnapsResult { return removeSnapByHand(list, w[0]) })},
	{commandForm("lease", anyWord), snapDeed(func(list []impl.Snap, w []string) impl.SnapsResult { return leaseByHand(list, w[0], true) })},
	{commandForm("free", anyWord), snapDeed(func(list []impl.Snap, w []string) impl.SnapsResult { return leaseByHand(list, w[0], false) })},
	{commandForm("write", anyWord, anyWord, anyWord), writeCommandByHand},
	{commandForm("mkdir", anyWord, anyWord), snapDeed(func(list []impl.Snap, w []string) impl.SnapsResult { return writeSnapByHand(list, w[0], w[1], nil, 2) })},
	{commandForm("rm", anyWord, anyWord), snapDeed(func(list []impl.Snap, w []string) impl.SnapsResult { return writeSnapByHand(list, w[0], w[1], nil, 3) })},
	{commandForm("want", hexWord), fetchDeed(func(f impl.Fetch, digest int64, _ []string) impl.FetchResult { return askByHand(f, digest) })},
	{commandForm("bring", hexWord, anyWord), fetchDeed(func(f impl.Fetch, digest int64, w []string) impl.FetchResult {
		return hearByHand(f, digest, []byte(w[1]))
	})},
	{commandForm("lose", hexWord), fetchDeed(func(f impl.Fetch, digest int64, _ []string) impl.FetchResult { return loseByHand(f, digest) })},
	{commandForm("again"), func(x impl.Store, _ []string) (impl.Store, int64) {
		x.Fetch = forgetByHand(x.Fetch).Fetch
		return x, impl.OK
	}},
	{commandForm("collect"), func(x impl.Store, _ []string) (impl.Store, int64) {
		x.Snaps = collectByHand(x.Snaps, nil).live
		x.Fetch.Chunks = keptByHand(x.Snaps, x.Fetch.Chunks).Chunks
		return x, impl.OK
	}},
}

func snapDeed(do func(list []impl.Snap, w []string) impl.SnapsResult) deedByHand {
	return func(x impl.Store, w []string) (impl.Store, int64) {
		done := do(x.Snaps, w)
		x.Snaps = done.Snaps
		return x, cmp.Or(done.Code, done.Reply)
	}
}

func fetchDeed(do func(f impl.Fetch, digest int64, w []string) impl.FetchResult) deedByHand {
	return func(x impl.Store, w []string) (impl.Store, int64) {
		digest, err := strconv.ParseInt(w[0], 16, 64)
		if err != nil {
			panic(err)
		}
		done := do(x.Fetch, digest, w)
		x.Fetch = done.Fetch
		return x, done.Code
	}
}

// writeCommandByHand counts the chunks in a map, so that one that is there, or that stands in the file twice, counts once.
func writeCommandByHand(x impl.Store, w []string) (impl.Store, int64) {
	done := writeSnapByHand(x.Snaps, w[0], w[1], []byte(w[2]), 1)
	if reply := cmp.Or(done.Code, done.Reply); reply != impl.OK {
		return x, reply
	}
	chunks := map[int64]impl.Chunk{}
	for piece := range slices.Chunk([]byte(w[2]), 8) {
		c := chunkOf(string(piece))
		if wanted, failed, _ := placesByHand(x.Fetch, c.Digest); wanted >= 0 || failed >= 0 {
			return x, impl.ErrMany
		}
		chunks[c.Digest] = c
	}
	for _, c := range x.Fetch.Chunks {
		chunks[c.Digest] = c
	}
	if len(chunks) > 40 {
		return x, impl.ErrMany
	}
	x.Snaps = done.Snaps
	x.Fetch.Chunks = slices.SortedFunc(maps.Values(chunks), func(a, b impl.Chunk) int { return cmp.Compare(a.Digest, b.Digest) })
	return x, impl.OK
}

func storeFaultByHand(x impl.Store) int64 {
	for _, code := range []int64{snapsFaultByHand(x.Snaps), fetchFaultByHand(x.Fetch), logFaultByHand(x.Log)} {
		if code != impl.OK {
			return code
		}
	}
	return impl.OK
}

func storeCode(code int64) impl.StoreResult { return impl.StoreResult{Code: code} }

func storeIs(x impl.Store) impl.StoreResult { return impl.StoreResult{Store: x} }

func saidByHand(x impl.Store) string {
	return fmt.Sprintf("%d %d", len(x.Snaps), len(x.Fetch.Chunks))
}

func newByHand(layer []impl.Entry) impl.StoreResult {
	if code := layerFaultByHand(layer); code != impl.OK {
		return storeCode(code)
	}
	if len(layer) == 0 {
		return impl.StoreResult{}
	}
	return storeIs(impl.Store{Snaps: snapsOf(leasedSnap(doneSnap("base", "", layer...)))})
}

func doByHand(x impl.Store, line string) impl.StoreResult {
	if code := cmp.Or(storeFaultByHand(x), lineFaultByHand(line)); code != impl.OK {
		return storeCode(code)
	}
	for _, command := range commandsByHand {
		found := command.form.FindStringSubmatch(line)
		if found == nil {
			continue
		}
		longer := appendByHand(x.Log, line)
		if longer.Code != impl.OK {
			return storeCode(longer.Code)
		}
		then, reply := command.do(x, found[1:])
		if reply != impl.OK {
			return impl.StoreResult{Reply: reply, Store: x}
		}
		then.Log = longer.Log
		return impl.StoreResult{Said: saidByHand(then), Store: then}
	}
	return storeCode(impl.ErrText)
}

func syncStoreByHand(x impl.Store) impl.StoreResult {
	if code := storeFaultByHand(x); code != impl.OK {
		return storeCode(code)
	}
	x.Log = syncByHand(x.Log).Log
	return storeIs(x)
}

func replayByHand(lines []string) impl.StoreResult {
	if len(lines) > 60 {
		return storeCode(impl.ErrMany)
	}
	var now impl.Store
	for _, line := range lines {
		done := doByHand(now, line)
		if done.Code != impl.OK {
			return storeCode(done.Code)
		}
		if done.Reply != impl.OK {
			return impl.StoreResult{Reply: done.Reply, Store: now}
		}
		now = done.Store
	}
	return storeIs(now)
}

func crashStoreByHand(x impl.Store, kept int64) impl.StoreResult {
	if code := storeFaultByHand(x); code != impl.OK {
		return storeCode(code)
	}
	left := crashByHand(x.Log, kept)
	if left.Code != impl.OK {
		return storeCode(left.Code)
	}
	lines, _ := linesByHand(left.Log.Sure)
	back := replayByHand(lines)
	if back.Code != impl.OK || back.Reply != impl.OK {
		return back
	}
	back.Store.Log = left.Log
	return back
}

// sameTexts: what SameStores has to say, by the texts of both.
func sameTexts(a impl.Store, b impl.Store) bool {
	return told(a.Snaps) == told(b.Snaps) && told(a.Fetch) == told(b.Fetch)
}

func sameBytesOf(a impl.Log, b impl.Log) bool {
	return bytes.Equal(a.Sure, b.Sure) && bytes.Equal(a.Loose, b.Loose)
}

func toldStore(x impl.Store) string {
	return told(x.Snaps) + ", " + told(x.Fetch) + ", " + toldLog(x.Log)
}

func toldStoreResult(r impl.StoreResult) string {
	return fmt.Sprintf("code %d, reply %d, said %q, %s", r.Code, r.Reply, r.Said, toldStore(r.Store))
}

// wantStore holds an answer against the model's, and asks what every answer owes: no fault.
// Where the document names no Said it may be nothing, or what there is.
func wantStore(t *testing.T, what func() string, got impl.StoreResult, want impl.StoreResult) {
	t.Helper()
	if got.Code != want.Code || got.Reply != want.Reply || !sameTexts(got.Store, want.Store) || !sameBytesOf(got.Store.Log, want.Store.Log) {
		t.Fatalf("%s: %s, not %s", what(), toldStoreResult(got), toldStoreResult(want))
	}
	if code := impl.StoreFault(got.Store); code != impl.OK {
		t.Fatalf("%s: the answer %s has the fault %d", what(), toldStoreResult(got), code)
	}
	named := want.Said != "" || want.Code != impl.OK
	if named && got.Said != want.Said || !named && got.Said != "" && got.Said != saidByHand(got.Store) {
		t.Fatalf("%s: said %q, not %q", what(), got.Said, want.Said)
	}
}

func wantStoreIs(t *testing.T, what string, got impl.StoreResult, want impl.StoreResult) {
	t.Helper()
	wantStore(t, func() string { return what }, got, want)
}

// wantDone also asks what is to be seen without the model: with a code there is nothing, with a Reply nothing changes, else the line is the last one.
func wantDone(t *testing.T, x impl.Store, line string) impl.StoreResult {
	t.Helper()
	what := func() string { return fmt.Sprintf("DoLine of %s and %q", toldStore(x), line) }
	got := impl.DoLine(x, line)
	wantStore(t, what, got, doByHand(x, line))
	switch {
	case got.Code != impl.OK:
		wantAnswer(t, "a code", got, storeCode(got.Code))
	case got.Reply != impl.OK:
		if !impl.SameStores(got.Store, x) || !sameBytesOf(got.Store.Log, x.Log) {
			t.Fatalf("%s: with the Reply %d the store is %s", what(), got.Reply, toldStore(got.Store))
		}
	default:
		if !bytes.Equal(got.Store.Log.Sure, x.Log.Sure) || !bytes.Equal(got.Store.Log.Loose, slices.Concat(x.Log.Loose, packByHand(line))) {
			t.Fatalf("%s: the log is %s", what(), toldLog(got.Store.Log))
		}
	}
	return got
}

// wantReply asks for the Reply by its number, too.
func wantReply(t *testing.T, x impl.Store, line string, reply int64) impl.StoreResult {
	t.Helper()
	got := wantDone(t, x, line)
	if got.Code != impl.OK || got.Reply != reply {
		t.Fatalf("DoLine of %s and %q: code %d, reply %d, not %d", toldStore(x), line, got.Code, got.Reply, reply)
	}
	return got
}

func wantCodeOfLine(t *testing.T, x impl.Store, line string, code int64) {
	t.Helper()
	wantDone(t, x, line)
	wantAnswer(t, fmt.Sprintf("DoLine of %q", line), impl.DoLine(x, line), storeCode(code))
}

func wantSyncedStore(t *testing.T, x impl.Store) impl.StoreResult {
	t.Helper()
	got := impl.SyncStore(x)
	wantStore(t, func() string { return "SyncStore of " + toldStore(x) }, got, syncStoreByHand(x))
	return got
}

func wantReplayed(t *testing.T, lines []string) impl.StoreResult {
	t.Helper()
	got := impl.ReplayLines(lines)
	wantStore(t, func() string { return fmt.Sprintf("ReplayLines of %q", lines) }, got, replayByHand(lines))
	return got
}

// wantCrashedStore: with a Reply the document tells of the number alone, so that the rest is asked for no fault.
func wantCrashedStore(t *testing.T, x impl.Store, kept int64) impl.StoreResult {
	t.Helper()
	what := func() string { return fmt.Sprintf("CrashStore of %s and %d", toldStore(x), kept) }
	got, want := impl.CrashStore(x, kept), crashStoreByHand(x, kept)
	if want.Reply == impl.OK {
		wantStore(t, what, got, want)
		return got
	}
	if got.Code != impl.OK || got.Reply != want.Reply || impl.StoreFault(got.Store) != impl.OK {
		t.Fatalf("%s: %s, not %s", what(), toldStoreResult(got), toldStoreResult(want))
	}
	return got
}

func hexOf(text string) string { return fmt.Sprintf("%08x", digestByLibrary([]byte(text))) }

// storeBehind: the store behind the lines, made by the model, in which each of them has to be done.
func storeBehind(x impl.Store, lines ...string) impl.Store {
	for _, line := range lines {
		done := doByHand(x, line)
		if done.Code != impl.OK || done.Reply != impl.OK {
			panic(fmt.Sprintf("%q: code %d, reply %d", line, done.Code, done.Reply))
		}
		x = done.Store
	}
	return x
}

func storeOf(lines ...string) impl.Store { return storeBehind(impl.Store{}, lines...) }

// storeParted: as storeOf, but what is ahead of the place is Sure.
func storeParted(at int, lines ...string) impl.Store {
	return storeBehind(syncStoreByHand(storeOf(lines[:at]...)).Store, lines[at:]...)
}

// scriptsToDo: lines that are done one behind the other from the empty store on, each without a Reply.
func scriptsToDo() [][]string {
	one, two, three := "12345678", "abcdefgh", "hello"
	many := []string{"prepare m"}
	for i := range 12 {
		many = append(many, fmt.Sprintf("write m /%c file%02d-first%02d-secnd%02d-", 'a'+i, i, i, i))
	}
	var wide []string
	for i := range 10 {
		wide = append(wide, fmt.Sprintf("prepare s%c", 'a'+i))
	}
	return [][]string{
		nil, {"prepare a"}, {"again"}, {"collect"}, {"want " + hexOf(one)},
		{"prepare a", "mkdir a /d", "write a /d/f " + three, "commit a", "prepare b a", "lease b"},
		{"prepare a", "write a /f " + one + two, "write a /g " + two + three, "rm a /f", "commit a", "prepare b a", "write b /f x", "rm b /g", "mkdir b /g", "write b /g/h " + one, "lease b", "commit b"},
		{"want " + hexOf(one), "want " + hexOf(two), "lose " + hexOf(one), "bring " + hexOf(two) + " " + two, "bring " + hexOf(one) + " wrong", "want " + hexOf("x"), "lose " + hexOf(one), "lose " + hexOf("x")},
		{"want " + hexOf(three), "bring " + hexOf(three) + " " + three, "prepare a", "write a /f " + three, "commit a", "free a", "collect", "prepare b"},
		{"prepare a", "write a /f " + one, "commit a", "lease a", "prepare b a", "write b /g " + two, "commit b", "collect", "prepare c a", "free a", "write c /g " + two, "commit c", "lease c", "collect"},
		{"prepare a", "commit a", "prepare b a", "commit b", "prepare c b", "commit c", "prepare d c"},
		{"want " + hexOf("x"), "lose " + hexOf("x"), "lose " + hexOf("x"), "lose " + hexOf("x"), "again", "want " + hexOf("x"), "bring " + hexOf("x") + " x", "again"},
		{"  prepare   a ", "prepare b  ", "   write a /f x", "write   b   /f   x   ", "lease a", " free a", "commit  a", "remove a"},
		many, wide,
	}
}

// rightStores: each script, all Sure, all Loose and some of each, and snapshots, fetches and logs that did not come of one another.
func rightStores() []impl.Store {
	var stores []impl.Store
	for _, lines := range scriptsToDo() {
		for _, at := range []int{0, len(lines) / 2, len(lines)} {
			stores = append(stores, storeParted(at, lines...))
		}
	}
	lists, fetches, logs := listsToCollect(), rightFetches(), rightLogs()
	for i := range 40 {
		stores = append(stores, impl.Store{Snaps: lists[i*7%len(lists)], Fetch: fetches[i*11%len(fetches)], Log: logs[i*5%len(logs)]})
	}
	return stores
}

// wordsToAsk: names, paths, digests and bytes, those of the store and some that it has not.
func wordsToAsk(x impl.Store) (names []string, paths []string, digests []string, datas []string) {
	names = append(namesIn(x.Snaps), "q", "Q", "abcde")
	paths = []string{"/d", "/d/f", "/f", "/a", "/a/b", "/q/r", "/a/b/c/d", "d", "/"}
	datas = []string{"x", "hello", "12345678abcdefgh", "abcdefghabcdefgh", strings.Repeat("y", 25), "123456781234567887654321", firstOfTwo, secondOfTwo}
	digests = []string{hexOf("x"), hexOf("hello"), hexOf("never"), "00000000", "ffffffff", hexOf(firstOfTwo)}
	for _, w := range x.Fetch.Wants[:min(4, len(x.Fetch.Wants))] {
		digests = append(digests, fmt.Sprintf("%08x", w.Digest))
	}
	for _, digest := range x.Fetch.Failed[:min(2, len(x.Fetch.Failed))] {
		digests = append(digests, fmt.Sprintf("%08x", digest))
	}
	for _, c := range x.Fetch.Chunks[:min(2, len(x.Fetch.Chunks))] {
		digests = append(digests, fmt.Sprintf("%08x", c.Digest))
	}
	return names, paths, digests, datas
}

// linesToAsk: each command of what a store has and of what it has not, and some lines that are no command.
func linesToAsk(x impl.Store) []string {
	names, paths, digests, datas := wordsToAsk(x)
	lines := []string{"again", "collect", "prepare", "wink", "commit a b", " ", "", "a\tb", "Collect", "again x", lineOf(61, 1), "want 123"}
	for i, name := range names {
		for _, word := range []string{"prepare ", "commit ", "remove ", "lease ", "free ", "prepare new ", "prepare q "} {
			lines = append(lines, word+name)
		}
		for j, path := range paths {
			lines = append(lines, "write "+name+" "+path+" "+datas[(i+j)%len(datas)])
			lines = append(lines, "mkdir "+name+" "+path, "rm "+name+" "+path)
		}
	}
	for i, digest := range digests {
		lines = append(lines, "want "+digest, "lose "+digest, "bring "+digest+" "+datas[i%len(datas)], "bring "+digest+" x")
	}
	for _, data := range datas {
		lines = append(lines, "bring "+hexOf(data)+" "+data)
	}
	return lines
}

func TestStoreBounds(t *testing.T) {
	if impl.MaxDone != 60 {
		t.Errorf("MaxDone is %d", impl.MaxDone)
	}
}

func TestStoresWithoutFault(t *testing.T) {
	for _, x := range rightStores() {
		if code := impl.StoreFault(x); code != impl.OK {
			t.Errorf("StoreFault of %s: %d", toldStore(x), code)
		}
		if code := storeFaultByHand(x); code != impl.OK {
			t.Errorf("the test itself says %d of %s", code, toldStore(x))
		}
	}
}

// TestScriptsAreWhatTheySay: stores of nothing, of one and of as many as may be; with each list of a fetch and without; of all Sure, all Loose and some of each.
func TestScriptsAreWhatTheySay(t *testing.T) {
	seen := map[string]int{}
	for _, x := range rightStores() {
		seen[fmt.Sprint("snaps ", min(len(x.Snaps), 2))]++
		seen[fmt.Sprint("most snaps ", len(x.Snaps) == 10)]++
		seen[fmt.Sprint("chunks ", len(x.Fetch.Chunks) > 0)]++
		seen[fmt.Sprint("wants ", len(x.Fetch.Wants) > 0)]++
		seen[fmt.Sprint("failed ", len(x.Fetch.Failed) > 0)]++
		seen[fmt.Sprint("sure ", len(x.Log.Sure) > 0, ", loose ", len(x.Log.Loose) > 0)]++
	}
	for _, what := range []string{
		"snaps 0", "snaps 1", "snaps 2", "most snaps true", "chunks true", "chunks false", "wants true", "wants false", "failed true", "failed false",
		"sure true, loose true", "sure true, loose false", "sure false, loose true", "sure false, loose false",
	} {
		if seen[what] < 3 {
			t.Errorf("%s: %d stores", what, seen[what])
		}
	}
}

// TestAllStoresAtAllLines: each store with each line, and what it comes to.
func TestAllStoresAtAllLines(t *testing.T) {
	done, replies, codes := map[string]int{}, map[int64]int{}, map[int64]int{}
	for _, x := range rightStores() {
		for _, line := range linesToAsk(x) {
			got := wantDone(t, x, line)
			word, _, _ := strings.Cut(line, " ")
			codes[got.Code]++
			replies[got.Reply]++
			if got.Code == impl.OK && got.Reply == impl.OK {
				done[word]++
			}
		}
		wantSyncedStore(t, x)
	}
	for _, word := range []string{"prepare", "commit", "remove", "lease", "free", "write", "mkdir", "rm", "want", "bring", "lose", "again", "collect"} {
		if done[word] < 20 {
			t.Errorf("%s was done %d times", word, done[word])
		}
	}
	for _, reply := range []int64{impl.ErrForm, impl.ErrMany, impl.ErrNone, impl.ErrText, impl.ErrTaken, impl.ErrAway, impl.ErrDir, impl.ErrState} {
		if replies[reply] < 10 {
			t.Errorf("the Reply %d came %d times", reply, replies[reply])
		}
	}
	if codes[impl.ErrText] < 10 || codes[impl.ErrMany] < 10 {
		t.Errorf("the codes came so often: %v", codes)
	}
}

func TestStoreOfNothing(t *testing.T) {
	if code := impl.StoreFault(impl.Store{}); code != impl.OK {
		t.Errorf("StoreFault: %d", code)
	}
	empty := impl.Store{Snaps: []impl.Snap{}, Fetch: impl.Fetch{Wants: []impl.Want{}, Failed: []int64{}, Chunks: []impl.Chunk{}}, Log: impl.Log{Sure: []byte{}, Loose: []byte{}}}
	for _, x := range []impl.Store{{}, empty} {
		wantStoreIs(t, "SyncStore", impl.SyncStore(x), impl.StoreResult{})
		wantStoreIs(t, "CrashStore", impl.CrashStore(x, 0), impl.StoreResult{})
		for _, kept := range []int64{-1, 1} {
			wantAnswer(t, "CrashStore", impl.CrashStore(x, kept), storeCode(impl.ErrRange))
		}
		for _, other := range []impl.Store{{}, empty} {
			if !impl.SameStores(x, other) {
				t.Error("two stores of nothing are not the same")
			}
		}
	}
	wantStoreIs(t, "ReplayLines of nil", impl.ReplayLines(nil), impl.StoreResult{})
	wantStoreIs(t, "ReplayLines of no lines", impl.ReplayLines([]string{}), impl.StoreResult{})
	for _, line := range []string{"again", "collect"} {
		wantAnswer(t, line, impl.DoLine(impl.Store{}, line), impl.StoreResult{Said: "0 0", Store: impl.Store{Log: impl.Log{Loose: packByHand(line)}}})
	}
}

// TestNewStore: each layer without a fault, of no entries and of some; nothing but it is there, and a crash takes it.
func TestNewStore(t *testing.T) {
	layers := append(rightLayers(), nil, []impl.Entry{}, fullLayer(1), fullLayer(12))
	none, some := 0, 0
	for _, layer := range layers {
		got := impl.NewStore(layer)
		wantStore(t, func() string { return "NewStore of " + told(layer) }, got, newByHand(layer))
		if got.Code != impl.OK || got.Reply != impl.OK || told(got.Store.Fetch) != told(impl.Fetch{}) || told(got.Store.Log) != told(impl.Log{}) {
			t.Fatalf("NewStore of %s: %s", told(layer), toldStoreResult(got))
		}
		if len(layer) == 0 {
			none++
			if len(got.Store.Snaps) != 0 {
				t.Fatalf("NewStore of no entries: %s", toldStoreResult(got))
			}
			continue
		}
		some++
		if len(got.Store.Snaps) != 1 {
			t.Fatalf("NewStore of %s: %s", told(layer), toldStoreResult(got))
		}
		if s := got.Store.Snaps[0]; s.Name != "base" || s.Parent != "" || s.Kind != impl.SnapDone || !s.Lease || !impl.SameLayers(s.Layer, layer) {
			t.Fatalf("NewStore of %s: %s", told(layer), told(s))
		}
		wantStoreIs(t, "behind a crash", impl.CrashStore(got.Store, 0), impl.StoreResult{})
		wantReply(t, got.Store, "remove base", impl.ErrTaken)
		wantReply(t, got.Store, "write base /q x", impl.ErrState)
		if kept := wantReply(t, got.Store, "collect", impl.OK); kept.Said != "1 0" {
			t.Fatalf("behind a collection of the base: %q", kept.Said)
		}
	}
	if none < 2 || some < 10 {
		t.Errorf("%d layers without entries, %d with some", none, some)
	}
}

// TestLinesOnABase: what stands on a base that the log does not tell is not done again behind a crash.
func TestLinesOnABase(t *testing.T) {
	base := impl.NewStore(layerOf(dirAt("/d"), fileAt("/d/f", "hello"))).Store
	x := storeBehind(base, "prepare a", "prepare b base", "write b /d/g x", "commit b")
	for kept, reply := range map[int64]int64{0: impl.OK, 13: impl.OK, 14: impl.OK, 32: impl.OK, 33: impl.ErrNone, 34: impl.ErrNone, int64(len(x.Log.Loose)): impl.ErrNone} {
		if got := wantCrashedStore(t, x, kept); got.Reply != reply {
			t.Errorf("CrashStore with %d kept: Reply %d, not %d", kept, got.Reply, reply)
		}
	}
	if got := impl.CrashStore(x, 14); told(got.Store.Snaps) != told(snapsOf(activeSnap("a", ""))) {
		t.Errorf("behind the first line: %s", toldStoreResult(got))
	}
	if got := impl.ReplayLines([]string{"prepare a", "prepare b base", "commit a"}); got.Code != impl.OK || got.Reply != impl.ErrNone || told(got.Store.Snaps) != told(snapsOf(activeSnap("a", ""))) {
		t.Errorf("the lines alone: %s", toldStoreResult(got))
	}
	wantCrashedStore(t, wantSyncedStore(t, x).Store, 0)
}

// TestSyncStore: all stays, and all of the log is Sure.
func TestSyncStore(t *testing.T) {
	for _, x := range rightStores() {
		once := wantSyncedStore(t, x)
		if !impl.SameStores(once.Store, x) || len(once.Store.Log.Loose) != 0 || !bytes.Equal(once.Store.Log.Sure, slices.Concat(x.Log.Sure, x.Log.Loose)) {
			t.Fatalf("SyncStore of %s: %s", toldStore(x), toldStoreResult(once))
		}
		wantStoreIs(t, "synced twice", wantSyncedStore(t, once.Store), once)
	}
}

// alikeStore: a store with two of all that it may have.
func alikeStore() impl.Store {
	return impl.Store{
		Snaps: snapsOf(doneSnap("a", "", dirAt("/d"), fileAt("/d/f", "12345678abcdefgh")), leasedSnap(activeSnap("b", "a", fileAt("/e", "x"), fileAt("/f", "y")))),
		Fetch: impl.Fetch{Wants: []impl.Want{{Digest: 5, Tries: 1}, {Digest: 3}}, Failed: []int64{9, 7}, Chunks: chunksOf("12345678", "x")},
		Log:   logOf([]string{"one"}, []string{"two"}),
	}
}

// turnsOfStores: each thing of a store that SameStores has to see.
func turnsOfStores() map[string]func(x *impl.Store) {
	return map[string]func(x *impl.Store){
		"no snapshots":        func(x *impl.Store) { x.Snaps = nil },
		"one snapshot less":   func(x *impl.Store) { x.Snaps = x.Snaps[:1] },
		"the other snapshot":  func(x *impl.Store) { x.Snaps = x.Snaps[1:] },
		"one snapshot more":   func(x *impl.Store) { x.Snaps = append(x.Snaps, doneSnap("c", "")) },
		"the other order":     func(x *impl.Store) { slices.Reverse(x.Snaps) },
		"a name":              func(x *impl.Store) { x.Snaps[1].Name = "c" },
		"a parent":            func(x *impl.Store) { x.Snaps[1].Parent = "" },
		"another parent":      func(x *impl.Store) { x.Snaps[0].Parent = "b" },
		"a kind":              func(x *impl.Store) { x.Snaps[1].Kind = 2 },
		"a kind of the first": func(x *impl.Store) { x.Snaps[0].Kind = 1 },
		"a lease":             func(x *impl.Store) { x.Snaps[0].Lease = true },
		"no lease":            func(x *impl.Store) { x.Snaps[1].Lease = false },
		"no layer":            func(x *impl.Store) { x.Snaps[0].Layer = nil },
		"an entry less":       func(x *impl.Store) { x.Snaps[0].Layer = x.Snaps[0].Layer[:1] },
		"an entry more":       func(x *impl.Store) { x.Snaps[1].Layer = append(x.Snaps[1].Layer, dirAt("/z")) },
		"a path":              func(x *impl.Store) { x.Snaps[0].Layer[1].Path = "/d/g" },
		"an entry's kind":     func(x *impl.Store) { x.Snaps[0].Layer[0].Kind = 4 },
		"a size":              func(x *impl.Store) { x.Snaps[0].Layer[1].Size = 15 },
		"a chunk of a file":   func(x *impl.Store) { x.Snaps[0].Layer[1].Chunks[1]++ },
		"chunks of a file":    func(x *impl.Store) { slices.Reverse(x.Snaps[0].Layer[1].Chunks) },
		"no wants":            func(x *impl.Store) { x.Fetch.Wants = nil },
		"a want less":         func(x *impl.Store) { x.Fetch.Wants = x.Fetch.Wants[:1] },
		"a want's digest":     func(x *impl.Store) { x.Fetch.Wants[1].Digest = 4 },
		"a want's tries":      func(x *impl.Store) { x.Fetch.Wants[1].Tries = 2 },
		"wants' order":        func(x *impl.Store) { slices.Reverse(x.Fetch.Wants) },
		"none failed":         func(x *impl.Store) { x.Fetch.Failed = nil },
		"one failed less":     func(x *impl.Store) { x.Fetch.Failed = x.Fetch.Failed[:1] },
		"another failed":      func(x *impl.Store) { x.Fetch.Failed[0] = 8 },
		"failed in order":     func(x *impl.Store) { slices.Reverse(x.Fetch.Failed) },
		"no chunks":           func(x *impl.Store) { x.Fetch.Chunks = nil },
		"a chunk less":        func(x *impl.Store) { x.Fetch.Chunks = x.Fetch.Chunks[1:] },
		"a chunk more":        func(x *impl.Store) { x.Fetch.Chunks = chunksOf("12345678", "x", "y") },
		"another chunk":       func(x *impl.Store) { x.Fetch.Chunks = chunksOf("12345678", "y") },
		"bytes of a chunk":    func(x *impl.Store) { x.Fetch.Chunks[1].Bytes = []byte("y") },
		"digest of a chunk":   func(x *impl.Store) { x.Fetch.Chunks[1].Digest++ },
		"more bytes":          func(x *impl.Store) { x.Fetch.Chunks[1].Bytes = []byte("xx") },
		"no bytes":            func(x *impl.Store) { x.Fetch.Chunks[1].Bytes = nil },
	}
}

func wantSame(t *testing.T, what string, a impl.Store, b impl.Store, same bool) {
	t.Helper()
	if impl.SameStores(a, b) != same || impl.SameStores(b, a) != same {
		t.Errorf("%s: SameStores is not %v of %s and %s", what, same, toldStore(a), toldStore(b))
	}
	if sameTexts(a, b) != same {
		t.Errorf("%s: the test itself says %v", what, !same)
	}
}

func TestSameStores(t *testing.T) {
	for what, turn := range turnsOfStores() {
		a, b := alikeStore(), alikeStore()
		wantSame(t, "untouched", a, b, true)
		turn(&b)
		wantSame(t, what, a, b, false)
		turn(&a)
		wantSame(t, what+", in both", a, b, true)
	}
	stores := rightStores()
	for i, a := range stores {
		for _, b := range stores[i:] {
			wantSame(t, "two stores", a, b, sameTexts(a, b))
		}
	}
}

// TestLogIsNotAsked: stores of other logs are the same, whatever these are.
func TestLogIsNotAsked(t *testing.T) {
	a := alikeStore()
	logs := append(rightLogs(), impl.Log{Sure: []byte{0}}, impl.Log{Loose: make([]byte, 5000)}, impl.Log{Sure: packByHand("two"), Loose: packByHand("one")})
	for _, f := range faultyLogs() {
		logs = append(logs, f.log)
	}
	for _, l := range logs {
		b := alikeStore()
		b.Log = l
		if !impl.SameStores(a, b) || !impl.SameStores(b, a) {
			t.Fatalf("SameStores asks for the log: %s", toldLog(l))
		}
		if b.Fetch.Wants[0].Tries = 0; impl.SameStores(a, b) {
			t.Fatalf("SameStores asks for the log alone: %s", toldLog(l))
		}
	}
}

// TestReplayOfScripts: a store whose lines are replayed is the same store.
func TestReplayOfScripts(t *testing.T) {
	for _, lines := range scriptsToDo() {
		got := wantReplayed(t, lines)
		now := impl.NewStore(nil).Store
		for _, line := range lines {
			now = wantReply(t, now, line, impl.OK).Store
		}
		if got.Code != impl.OK || got.Reply != impl.OK || !impl.SameStores(got.Store, now) || !sameBytesOf(got.Store.Log, now.Log) {
			t.Fatalf("ReplayLines of %q: %s, not %s", lines, toldStoreResult(got), toldStore(now))
		}
		again := wantReplayed(t, impl.ReadLines(got.Store.Log.Loose).Names)
		wantStoreIs(t, "replayed from its log", again, got)
	}
}

func TestReplayByNumber(t *testing.T) {
	for n := range 62 {
		got := wantReplayed(t, slices.Repeat([]string{"again"}, n))
		want := storeIs(impl.Store{Log: impl.Log{Loose: packAll(slices.Repeat([]string{"again"}, n)...)}})
		if n > 60 {
			want = storeCode(impl.ErrMany)
		}
		wantStoreIs(t, fmt.Sprint(n, " lines"), got, want)
	}
	for _, n := range []int{61, 100, 256, 1000, 1 << 16} {
		for _, line := range []string{"again", "wink", "", lineOf(61, 1), "commit q"} {
			wantAnswer(t, fmt.Sprint(n, " of ", line), impl.ReplayLines(slices.Repeat([]string{line}, n)), storeCode(impl.ErrMany))
		}
	}
}

// TestReplayEndsWhereALineIsWrong: a line with a code or a Reply at each place, with lines behind it that are not asked any more.
func TestReplayEndsWhereALineIsWrong(t *testing.T) {
	lines := scriptsToDo()[6]
	for at := range len(lines) + 1 {
		for wrong, code := range map[string]int64{"wink": impl.ErrText, "": impl.ErrMany, "a\tb": impl.ErrText, "want x": impl.ErrText, lineOf(61, 1): impl.ErrMany, "again again": impl.ErrText} {
			with := slices.Insert(slices.Clone(lines), at, wrong)
			wantAnswer(t, fmt.Sprintf("%q at %d", wrong, at), wantReplayed(t, with), storeCode(code))
			wantAnswer(t, fmt.Sprintf("%q at %d, and a Reply behind it", wrong, at), wantReplayed(t, append(with, "commit q")), storeCode(code))
		}
		for wrong, reply := range map[string]int64{"commit q": impl.ErrNone, "prepare A": impl.ErrText, "lose " + hexOf("q"): impl.ErrNone} {
			with := slices.Insert(slices.Clone(lines), at, wrong)
			for _, behind := range []string{"again", "wink", "", "prepare A"} {
				got := wantReplayed(t, append(slices.Clone(with), behind))
				if got.Code != impl.OK || got.Reply != reply || !sameTexts(got.Store, storeOf(lines[:at]...)) || !bytes.Equal(got.Store.Log.Loose, packAll(lines[:at]...)) {
					t.Fatalf("%q at %d: %s", wrong, at, toldStoreResult(got))
				}
			}
		}
	}
}

// TestReplayUntilTheLogIsFull: 30 lines of 60 bytes have room, and a 31st has none, also where it would have a Reply.
func TestReplayUntilTheLogIsFull(t *testing.T) {
	long := "again" + strings.Repeat(" ", 55)
	for n := range 61 {
		got := wantReplayed(t, slices.Repeat([]string{long}, n))
		if n <= 30 && (got.Code != impl.OK || len(got.Store.Log.Loose) != 65*n) || n > 30 && got.Code != impl.ErrMany {
			t.Fatalf("%d lines of 60 bytes: %s", n, toldStoreResult(got))
		}
	}
	lines := slices.Repeat([]string{long}, 30)
	wantAnswer(t, "a Reply that has no room", wantReplayed(t, append(lines, "commit"+strings.Repeat(" ", 50)+"abcd")), storeCode(impl.ErrMany))
	wantStoreIs(t, "a short line has room", wantReplayed(t, append(lines, "commit q")), impl.StoreResult{Reply: impl.ErrNone, Store: impl.Store{Log: impl.Log{Loose: packAll(lines...)}}})
}

// wantBackAt asks a store for what is there behind a crash: what was done up to the line, all Sure.
func wantBackAt(t *testing.T, x impl.Store, kept int64, lines []string) {
	t.Helper()
	got := wantCrashedStore(t, x, kept)
	if got.Code != impl.OK || got.Reply != impl.OK || !impl.SameStores(got.Store, storeOf(lines...)) {
		t.Fatalf("CrashStore with %d kept: %s, not what is behind %q", kept, toldStoreResult(got), lines)
	}
	if len(got.Store.Log.Loose) != 0 || !bytes.Equal(got.Store.Log.Sure, packAll(lines...)) {
		t.Fatalf("CrashStore with %d kept: the log is %s, not %q", kept, toldLog(got.Store.Log), lines)
	}
}

// TestCrashOfStores: each script, parted at each line, with each number of bytes kept.
func TestCrashOfStores(t *testing.T) {
	for _, lines := range scriptsToDo() {
		for _, at := range placesIn(len(lines)) {
			x, left := storeParted(at, lines...), at
			for kept := range len(x.Log.Loose) + 1 {
				for left < len(lines) && len(packAll(lines[at:left+1]...)) <= kept {
					left++
				}
				wantBackAt(t, x, int64(kept), lines[:left])
			}
			if left != len(lines) {
				t.Fatalf("with all kept %d of %d lines are there", left, len(lines))
			}
			for _, kept := range placesThatAreNone(x.Log) {
				wantAnswer(t, fmt.Sprint(kept, " kept"), impl.CrashStore(x, kept), storeCode(impl.ErrRange))
			}
		}
	}
}

// TestNothingSyncedIsLost: whatever is done behind a sync, a crash leaves what was synced.
func TestNothingSyncedIsLost(t *testing.T) {
	for _, lines := range scriptsToDo() {
		x := impl.SyncStore(storeOf(lines...)).Store
		wantBackAt(t, x, 0, lines)
		for _, more := range []string{"prepare new", "again", "collect", "want " + hexOf("never")} {
			next := impl.DoLine(x, more).Store
			for kept := range int64(len(next.Log.Loose)) {
				wantBackAt(t, next, kept, lines)
			}
		}
	}
}

// TestTwoCrashesOfStores: behind a crash nothing is Loose, so that a second one takes nothing.
func TestTwoCrashesOfStores(t *testing.T) {
	for _, lines := range scriptsToDo() {
		x := storeParted(len(lines)/3, lines...)
		for kept := 0; kept <= len(x.Log.Loose); kept += 9 {
			once := impl.CrashStore(x, int64(kept))
			wantStoreIs(t, "a second crash", wantCrashedStore(t, once.Store, 0), once)
			wantStoreIs(t, "a sync behind it", wantSyncedStore(t, once.Store), once)
		}
	}
}

// TestCrashAndSyncWithAllKept: with all kept a crash is as a sync.
func TestCrashAndSyncWithAllKept(t *testing.T) {
	for _, lines := range scriptsToDo() {
		for _, at := range placesIn(len(lines)) {
			x := storeParted(at, lines...)
			wantStoreIs(t, fmt.Sprintf("%q parted at %d", lines, at), impl.CrashStore(x, int64(len(x.Log.Loose))), impl.SyncStore(x))
		}
	}
}

// TestCrashOfMoreThanMayBeDone: a log of 60 lines comes back, one of 61 does not; of that one the first 60 do.
func TestCrashOfMoreThanMayBeDone(t *testing.T) {
	for n := 58; n <= 64; n++ {
		lines := slices.Repeat([]string{"again"}, n)
		for _, sure := range []int{0, 1, 57} {
			x := storeParted(sure, lines...)
			for left := sure; left <= n; left++ {
				kept := int64(10 * (left - sure))
				got := wantCrashedStore(t, x, kept)
				if left > 60 {
					wantAnswer(t, fmt.Sprint(left, " lines"), got, storeCode(impl.ErrMany))
				} else {
					wantBackAt(t, x, kept, lines[:left])
				}
			}
		}
	}
	x := storeOf(slices.Repeat([]string{"again"}, 200)...)
	wantAnswer(t, "a full log", wantCrashedStore(t, x, 2000), storeCode(impl.ErrMany))
	wantAnswer(t, "a full log, and one more line", impl.DoLine(x, "again"), storeCode(impl.ErrMany))
	wantBackAt(t, x, 609, slices.Repeat([]string{"again"}, 60))
}

// TestCrashAsksTheLogAlone: what the store has beside its log is not there behind a crash.
func TestCrashAsksTheLogAlone(t *testing.T) {
	lines := scriptsToDo()[6]
	for _, other := range rightStores() {
		x := impl.Store{Snaps: other.Snaps, Fetch: other.Fetch, Log: storeParted(3, lines...).Log}
		wantBackAt(t, x, 0, lines[:3])
		wantBackAt(t, x, int64(len(x.Log.Loose)), lines)
	}
}

// TestCrashOfLogsOfOtherLines: a log whose lines are no commands, or have a Reply, does not come back.
func TestCrashOfLogsOfOtherLines(t *testing.T) {
	for _, k := range []struct {
		lines []string
		code  int64
		reply int64
	}{
		{[]string{"wink"}, impl.ErrText, 0}, {[]string{"again", "wink", "again"}, impl.ErrText, 0}, {[]string{"again", "want 0"}, impl.ErrText, 0}, {[]string{" "}, impl.ErrText, 0},
		{[]string{"commit a"}, 0, impl.ErrNone}, {[]string{"prepare a", "prepare a"}, 0, impl.ErrTaken}, {[]string{"commit a", "wink"}, 0, impl.ErrNone}, {[]string{"wink", "commit a"}, impl.ErrText, 0},
		{slices.Repeat([]string{"wink"}, 61), impl.ErrMany, 0}, {slices.Repeat([]string{"commit a"}, 61), impl.ErrMany, 0}, {slices.Repeat([]string{"wink"}, 60), impl.ErrText, 0},
	} {
		for _, at := range placesIn(len(k.lines)) {
			x := impl.Store{Log: logOf(k.lines[:at], k.lines[at:])}
			got := wantCrashedStore(t, x, int64(len(x.Log.Loose)))
			if got.Code != k.code || got.Reply != k.reply {
				t.Errorf("CrashStore of the log %q: %s", k.lines, toldStoreResult(got))
			}
			if k.code != impl.OK {
				wantAnswer(t, "a code", got, storeCode(k.code))
			}
		}
	}
}

// wantParts: lines that are done in two parts, at each of the places, come to what they come to in one, synced between them or not, crashed with all kept or not.
func wantParts(t *testing.T, lines []string, places []int) {
	t.Helper()
	whole := impl.ReplayLines(lines)
	for _, at := range places {
		first := wantReplayed(t, lines[:at])
		loose := int64(len(first.Store.Log.Loose))
		for i, now := range []impl.Store{first.Store, impl.SyncStore(first.Store).Store, impl.CrashStore(first.Store, loose).Store} {
			for _, line := range lines[at:] {
				now = wantReply(t, now, line, impl.OK).Store
			}
			if !impl.SameStores(now, whole.Store) || !bytes.Equal(slices.Concat(now.Log.Sure, now.Log.Loose), slices.Concat(whole.Store.Log.Sure, whole.Store.Log.Loose)) {
				t.Fatalf("%q parted at %d, way %d: %s, not %s", lines, at, i, toldStore(now), toldStore(whole.Store))
			}
		}
	}
}

func TestLinesInTwoParts(t *testing.T) {
	for _, lines := range scriptsToDo() {
		for at := range len(lines) + 1 {
			wantParts(t, lines, []int{at})
		}
	}
}

// history: what a store was behind each of its lines, and how many of these were synced.
type history struct {
	lines  []string
	states []impl.Store
	synced int
}

// crash asks the promise: what is there is what was there behind some line, all that was synced at least. What is lost is forgotten.
func (h *history) crash(t *testing.T, got impl.Store) {
	t.Helper()
	left := len(impl.ReadLines(got.Log.Sure).Names)
	if left < h.synced || left > len(h.lines) || !slices.Equal(impl.ReadLines(got.Log.Sure).Names, h.lines[:left]) {
		t.Fatalf("behind a crash there are %d lines of %q, of which %d were synced", left, h.lines, h.synced)
	}
	if !impl.SameStores(got, h.states[left]) {
		t.Fatalf("behind a crash there is %s, not %s", toldStore(got), toldStore(h.states[left]))
	}
	h.lines, h.states, h.synced = h.lines[:left], h.states[:left+1], left
}

// someLine: one that has good chances to be done, and sometimes one that is not.
func someLine(x impl.Store, next func(n int) int) string {
	pick := func(list ...string) string { return list[next(len(list))] }
	names := append(namesIn(x.Snaps), "a", "b", "c", "d")
	paths := []string{"/a", "/b", "/a/b", "/a/c", "/a/b/c", "/b/a"}
	texts := []string{"x", "hello", "12345678", "abcdefgh", "korcaajh", "12345678abcdefgh", "abcdefghabcdefgh", "hellohelxyz", "87654321abcdefgh12345678", "p", "q", "r"}
	digest := hexOf(pick(texts[:5]...))
	if n := len(x.Fetch.Wants); n > 0 && next(3) > 0 {
		digest = fmt.Sprintf("%08x", x.Fetch.Wants[next(n)].Digest)
	}
	blanks := pick("", "", "", " ", "   ")
	line := ""
	switch next(14) {
	case 0:
		line = "prepare " + pick("a", "b", "c", "d", "e", "ee", "f")
	case 1:
		line = "prepare " + pick("a", "b", "c", "d", "e", "ee", "f") + " " + blanks + pick(names...)
	case 2:
		line = "commit " + pick(names...)
	case 3:
		line = pick("remove ", "lease ", "free ", "free ") + pick(names...)
	case 4, 5, 6:
		line = "write " + pick(names...) + " " + blanks + pick(paths...) + " " + pick(texts...)
	case 7:
		line = "mkdir " + pick(names...) + " " + pick(paths...)
	case 8:
		line = "rm " + pick(names...) + " " + pick(paths...)
	case 9:
		line = "want " + hexOf(pick(texts...))
	case 10:
		line = "bring " + digest + " " + pick(texts[:5]...)
	case 11:
		line = "lose " + digest
	case 12:
		line = pick("again", "collect")
	default:
		line = pick("wink", "commit", "again again", "want 12345", "WRITE a /a x", "", "\x1f", "collect x")
	}
	return blanks + line + pick("", "", "", " ")
}

// TestManyStepsOfStores goes on from store to store, beside what it was behind each line.
func TestManyStepsOfStores(t *testing.T) {
	spread := uint32(151)
	next := func(n int) int {
		spread = spread*1664525 + 1013904223
		return int(spread>>8) % n
	}
	done, replies, codes, lost, full, failed, gone := 0, 0, 0, 0, 0, 0, 0
	for run := range 50 {
		x, h := impl.NewStore(nil).Store, history{states: []impl.Store{{}}}
		for range 60 + 5*run {
			if len(h.lines) > 0 && next(25) == 0 {
				x, h.synced = wantSyncedStore(t, x).Store, len(h.lines)
				continue
			}
			if next(40) == 0 {
				back := wantCrashedStore(t, x, int64(next(len(x.Log.Loose)+1)))
				if back.Code != impl.OK {
					full++
					continue
				}
				before := len(h.lines)
				h.crash(t, back.Store)
				x, lost = back.Store, lost+before-len(h.lines)
				continue
			}
			line := someLine(x, next)
			got := wantDone(t, x, line)
			switch {
			case got.Code != impl.OK:
				codes++
			case got.Reply != impl.OK:
				replies++
			default:
				done, failed = done+1, failed+len(got.Store.Fetch.Failed)
				gone += max(0, len(x.Fetch.Chunks)-len(got.Store.Fetch.Chunks))
				x = got.Store
				h.lines, h.states = append(h.lines, line), append(h.states, x)
			}
		}
		if len(h.lines) <= 60 {
			wantParts(t, h.lines, placesIn(len(h.lines)))
		}
	}
	if done < 1000 || replies < 1000 || codes < 300 || lost < 100 || full < 5 || failed < 20 || gone < 50 {
		t.Errorf("%d lines were done, %d had a Reply, %d a code; %d were lost, %d times there were too many; %d had failed, %d chunks went", done, replies, codes, lost, full, failed, gone)
	}
}
