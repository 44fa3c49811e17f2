package tests

import (
	"cmp"
	"fmt"
	"math"
	"slices"
	"testing"

	"loop.example/g00299/impl"
)

// foundFault: a fault of a fetch, and where it stands in the document's order: the rule, the place, and what is asked there.
type foundFault struct {
	rank [3]int
	code int64
}

func firstFault(found []foundFault) int64 {
	if len(found) == 0 {
		return impl.OK
	}
	return slices.MinFunc(found, func(a, b foundFault) int { return slices.Compare(a.rank[:], b.rank[:]) }).code
}

func chunksFaultByHand(list []impl.Chunk) int64 {
	var found []foundFault
	note := func(is bool, code int64, rank ...int) {
		if is {
			found = append(found, foundFault{[3]int(rank), code})
		}
	}
	note(len(list) > 40, impl.ErrMany, 0, 0, 0)
	for i, c := range list {
		note(uint64(c.Digest) > math.MaxUint32, impl.ErrRange, 1, i, 0)
		note(len(c.Bytes) == 0 || len(c.Bytes) > 8, impl.ErrMany, 1, i, 1)
		note(digestByLibrary(c.Bytes) != c.Digest, impl.ErrSum, 1, i, 2)
		note(i > 0 && list[max(i, 1)-1].Digest >= c.Digest, impl.ErrForm, 1, i, 3)
	}
	return firstFault(found)
}

// fetchFaultByHand looks for all faults, and takes the one whose rank is the lowest.
func fetchFaultByHand(f impl.Fetch) int64 {
	var found []foundFault
	note := func(is bool, code int64, rank ...int) {
		if is {
			found = append(found, foundFault{[3]int(rank), code})
		}
	}
	code := chunksFaultByHand(f.Chunks)
	note(code != impl.OK, code, 0, 0, 0)
	note(len(f.Wants) > 12 || len(f.Failed) > 40, impl.ErrMany, 1, 0, 0)
	for i, w := range f.Wants {
		first, failed, chunk := placesByHand(f, w.Digest)
		note(uint64(w.Digest) > math.MaxUint32 || w.Tries != 0 && w.Tries != 1 && w.Tries != 2, impl.ErrRange, 2, i, 0)
		note(first != i || failed >= 0 || chunk >= 0, impl.ErrTaken, 2, i, 1)
	}
	for i, digest := range f.Failed {
		_, first, chunk := placesByHand(f, digest)
		note(uint64(digest) > math.MaxUint32, impl.ErrRange, 3, i, 0)
		note(first != i || chunk >= 0, impl.ErrTaken, 3, i, 1)
	}
	return firstFault(found)
}

// placesByHand: where the digest stands first among Wants, Failed and chunks; -1: nowhere.
func placesByHand(f impl.Fetch, digest int64) (wanted int, failed int, chunk int) {
	wanted = slices.IndexFunc(f.Wants, func(w impl.Want) bool { return w.Digest == digest })
	chunk = slices.IndexFunc(f.Chunks, func(c impl.Chunk) bool { return c.Digest == digest })
	return wanted, slices.Index(f.Failed, digest), chunk
}

func fetchCode(code int64) impl.FetchResult { return impl.FetchResult{Code: code} }

func fetchIs(f impl.Fetch) impl.FetchResult { return impl.FetchResult{Fetch: f} }

func askByHand(f impl.Fetch, digest int64) impl.FetchResult {
	if code := fetchFaultByHand(f); code != impl.OK {
		return fetchCode(code)
	}
	wanted, failed, chunk := placesByHand(f, digest)
	switch {
	case uint64(digest) > math.MaxUint32:
		return fetchCode(impl.ErrRange)
	case failed >= 0:
		return fetchCode(impl.ErrAway)
	case wanted < 0 && chunk < 0 && len(f.Wants) == 12:
		return fetchCode(impl.ErrMany)
	case wanted < 0 && chunk < 0:
		f.Wants = slices.Concat(f.Wants, []impl.Want{{Digest: digest}})
	}
	return fetchIs(f)
}

func hearByHand(f impl.Fetch, digest int64, data []byte) impl.FetchResult {
	if len(data) == 0 || len(data) > 8 || digestByLibrary(data) != digest {
		return loseByHand(f, digest)
	}
	if code := fetchFaultByHand(f); code != impl.OK {
		return fetchCode(code)
	}
	wanted, _, _ := placesByHand(f, digest)
	if wanted < 0 {
		return fetchCode(impl.ErrNone)
	}
	if len(f.Chunks) == 40 {
		return fetchCode(impl.ErrMany)
	}
	f.Wants = slices.Concat(f.Wants[:wanted], f.Wants[wanted+1:])
	f.Chunks = slices.Concat(f.Chunks, []impl.Chunk{{Digest: digest, Bytes: data}})
	slices.SortFunc(f.Chunks, func(a, b impl.Chunk) int { return cmp.Compare(a.Digest, b.Digest) })
	return fetchIs(f)
}

func loseByHand(f impl.Fetch, digest int64) impl.FetchResult {
	if code := fetchFaultByHand(f); code != impl.OK {
		return fetchCode(code)
	}
	wanted, _, _ := placesByHand(f, digest)
	if wanted < 0 {
		return fetchCode(impl.ErrNone)
	}
	if f.Wants[wanted].Tries < 2 {
		f.Wants = slices.Clone(f.Wants)
		f.Wants[wanted].Tries++
		return fetchIs(f)
	}
	if len(f.Failed) == 40 {
		return fetchCode(impl.ErrMany)
	}
	f.Wants = slices.Concat(f.Wants[:wanted], f.Wants[wanted+1:])
	f.Failed = slices.Concat(f.Failed, []int64{digest})
	return fetchIs(f)
}

// askLayerByHand counts what would be wanted in the end, ahead of any want.
func askLayerByHand(f impl.Fetch, layer []impl.Entry) impl.FetchResult {
	if code := cmp.Or(fetchFaultByHand(f), layerFaultByHand(layer)); code != impl.OK {
		return fetchCode(code)
	}
	var digests []int64
	for _, e := range layer {
		digests = append(digests, e.Chunks...)
	}
	wants := slices.Clone(f.Wants)
	for _, digest := range uniqueInOrder(digests) {
		if wanted, failed, chunk := placesByHand(f, digest); wanted < 0 && failed < 0 && chunk < 0 {
			wants = append(wants, impl.Want{Digest: digest})
		}
	}
	if len(wants) > 12 {
		return fetchCode(impl.ErrMany)
	}
	f.Wants = wants
	return fetchIs(f)
}

func forgetByHand(f impl.Fetch) impl.FetchResult {
	if code := fetchFaultByHand(f); code != impl.OK {
		return fetchCode(code)
	}
	f.Failed = nil
	return fetchIs(f)
}

// textsToFetch: texts of 1 to ChunkBytes bytes, no two of one digest, whose digests neither rise nor fall.
func textsToFetch() []string { return numberedTexts(120) }

func wantsOf(tries []int64, texts ...string) []impl.Want {
	var wants []impl.Want
	for i, digest := range digestsOfTexts(texts...) {
		wants = append(wants, impl.Want{Digest: digest, Tries: tries[i%len(tries)]})
	}
	return wants
}

// fetchOf: so many of each, all of them of other texts. The texts from 100 on are in no such fetch.
func fetchOf(wants int, failed int, chunks int) impl.Fetch {
	texts := textsToFetch()
	return impl.Fetch{
		Wants: wantsOf([]int64{0, 2, 1}, texts[:wants]...), Failed: digestsOfTexts(texts[20 : 20+failed]...), Chunks: chunksOf(texts[60 : 60+chunks]...),
	}
}

func TestTextsToFetchAreWhatTheySay(t *testing.T) {
	digests := digestsOfTexts(textsToFetch()...)
	if len(uniqueInOrder(digests)) != 120 {
		t.Error("two texts have one digest")
	}
	for _, list := range [][]int64{digests[:4], digests[:12], digests[20:24], digests[20:60], digests[100:104]} {
		fallen := slices.Clone(list)
		slices.Reverse(fallen)
		if slices.IsSorted(list) || slices.IsSorted(fallen) {
			t.Errorf("%v would stay as it is if it were sorted", list)
		}
	}
	if impl.MaxTries != 3 || impl.MaxWants != 12 {
		t.Errorf("MaxTries is %d, MaxWants is %d", impl.MaxTries, impl.MaxWants)
	}
}

func rightFetches() []impl.Fetch {
	fetches := []impl.Fetch{
		{}, {Wants: []impl.Want{}, Failed: []int64{}, Chunks: []impl.Chunk{}},
		{Wants: []impl.Want{{Digest: 0}}}, {Wants: []impl.Want{{Digest: math.MaxUint32}, {Digest: 0, Tries: 2}}}, {Wants: []impl.Want{{}}},
		{Failed: []int64{0}}, {Failed: []int64{math.MaxUint32, 0}}, {Wants: []impl.Want{{Digest: 1}}, Failed: []int64{0}},
		{Wants: []impl.Want{{Digest: 1}}, Failed: []int64{math.MaxUint32}, Chunks: chunksOf(bytesOfZero)},
		{Wants: wantsOf([]int64{1}, firstOfTwo)}, {Failed: digestsOfTexts(secondOfTwo), Chunks: chunksOf("a")}, {Chunks: chunksOf(firstOfTwo)},
		{Wants: wantsOf([]int64{0}, "", "abcdefghi", bytesOfLargest)},
	}
	for _, wants := range []int{0, 1, 2, 5, 11, 12} {
		for _, failed := range []int{0, 1, 3, 39, 40} {
			for _, chunks := range []int{0, 1, 4, 39, 40} {
				fetches = append(fetches, fetchOf(wants, failed, chunks))
			}
		}
	}
	return fetches
}

func TestFetchesWithoutFault(t *testing.T) {
	for _, f := range rightFetches() {
		if code := impl.FetchFault(f); code != impl.OK {
			t.Errorf("FetchFault of %s: %d", told(f), code)
		}
		if code := fetchFaultByHand(f); code != impl.OK {
			t.Errorf("the test itself says %d of %s", code, told(f))
		}
	}
	for tries := range int64(3) {
		if code := impl.FetchFault(impl.Fetch{Wants: wantsOf([]int64{tries}, textsToFetch()[:12]...)}); code != impl.OK {
			t.Errorf("%d Tries: %d", tries, code)
		}
	}
}

// oneFault: how a fetch with nothing wrong comes to have one fault, the field that this turns, and where the document asks for it.
type oneFault struct {
	name  string
	field string
	rank  [3]int
	code  int64
	turn  func(f *impl.Fetch)
}

// faultsOfLists: those that are asked ahead of the first want.
func faultsOfLists() []oneFault {
	chunk := func(name string, code int64, turn func(f *impl.Fetch)) oneFault {
		return oneFault{name, "chunks", [3]int{0, 0, 0}, code, turn}
	}
	many := func(name string, turn func(f *impl.Fetch)) oneFault {
		return oneFault{name, name, [3]int{1, 0, 0}, impl.ErrMany, turn}
	}
	texts := textsToFetch()
	return []oneFault{
		chunk("41 chunks", impl.ErrMany, func(f *impl.Fetch) { f.Chunks = chunksOf(texts[60:101]...) }),
		chunk("a chunk of no digest", impl.ErrRange, func(f *impl.Fetch) { f.Chunks[1].Digest = -1 }),
		chunk("a chunk of a digest too great", impl.ErrRange, func(f *impl.Fetch) { f.Chunks[3].Digest = 1 << 32 }),
		chunk("a chunk of no bytes", impl.ErrMany, func(f *impl.Fetch) { f.Chunks[0].Bytes = nil }),
		chunk("a chunk of 9 bytes", impl.ErrMany, func(f *impl.Fetch) { f.Chunks[2] = chunkOf("abcdefghi") }),
		chunk("a chunk of other bytes", impl.ErrSum, func(f *impl.Fetch) { f.Chunks[2].Bytes = []byte("other") }),
		chunk("chunks that fall", impl.ErrForm, func(f *impl.Fetch) { slices.Reverse(f.Chunks) }),
		chunk("a chunk twice", impl.ErrForm, func(f *impl.Fetch) { f.Chunks[1] = f.Chunks[0] }),
		many("13 wants", func(f *impl.Fetch) { f.Wants = append(f.Wants, wantsOf([]int64{0}, texts[4:13]...)...) }),
		many("60 wants", func(f *impl.Fetch) { f.Wants = slices.Repeat(f.Wants, 15) }),
		many("41 Failed", func(f *impl.Fetch) { f.Failed = append(f.Failed, digestsOfTexts(texts[24:61]...)...) }),
		many("400 Failed", func(f *impl.Fetch) { f.Failed = slices.Repeat(f.Failed, 100) }),
	}
}

// faultsAt: those of one want and of one that failed. Failed[3] and Wants[3] are left, as others are held against them.
func faultsAt(place int) []oneFault {
	var list []oneFault
	want := func(name string, field string, rule int, code int64, turn func(w *impl.Want, f impl.Fetch)) {
		list = append(list, oneFault{
			fmt.Sprintf("want %d %s", place, name), fmt.Sprintf("want %d %s", place, field), [3]int{2, place, rule}, code,
			func(f *impl.Fetch) { turn(&f.Wants[place], *f) },
		})
	}
	failed := func(name string, rule int, code int64, turn func(f impl.Fetch) int64) {
		list = append(list, oneFault{
			fmt.Sprintf("failed %d %s", place, name), fmt.Sprintf("failed %d", place), [3]int{3, place, rule}, code,
			func(f *impl.Fetch) { f.Failed[place] = turn(*f) },
		})
	}
	for _, no := range noDigests() {
		want(fmt.Sprint("of the digest ", no), "digest", 0, impl.ErrRange, func(w *impl.Want, _ impl.Fetch) { w.Digest = no })
		failed(fmt.Sprint("of the digest ", no), 0, impl.ErrRange, func(impl.Fetch) int64 { return no })
	}
	for _, no := range []int64{-1, 3, 4, math.MinInt64, math.MaxInt64, 1 << 32, 1<<32 + 1, 256, -254} {
		want(fmt.Sprint("of Tries ", no), "tries", 0, impl.ErrRange, func(w *impl.Want, _ impl.Fetch) { w.Tries = no })
	}
	want("among Failed", "digest", 1, impl.ErrTaken, func(w *impl.Want, f impl.Fetch) { w.Digest = f.Failed[3] })
	want("that is a chunk", "digest", 1, impl.ErrTaken, func(w *impl.Want, f impl.Fetch) { w.Digest = f.Chunks[0].Digest })
	want("that is the last chunk", "digest", 1, impl.ErrTaken, func(w *impl.Want, f impl.Fetch) { w.Digest = f.Chunks[3].Digest })
	failed("that is a chunk", 1, impl.ErrTaken, func(f impl.Fetch) int64 { return f.Chunks[0].Digest })
	failed("that is the last chunk", 1, impl.ErrTaken, func(f impl.Fetch) int64 { return f.Chunks[3].Digest })
	for ahead := range place {
		want(fmt.Sprint("that is want ", ahead), "digest", 1, impl.ErrTaken, func(w *impl.Want, f impl.Fetch) { w.Digest = f.Wants[ahead].Digest })
		failed(fmt.Sprint("that is failed ", ahead), 1, impl.ErrTaken, func(f impl.Fetch) int64 { return f.Failed[ahead] })
	}
	return list
}

func allFaults() []oneFault {
	return slices.Concat(faultsOfLists(), faultsAt(0), faultsAt(1), faultsAt(2))
}

// faultyFetch: a fetch with a fault, and the code of the first one in the document's order.
type faultyFetch struct {
	name string
	f    impl.Fetch
	code int64
}

// withFaults turns the fault that is asked first last, so that the others still find what they are held against.
func withFaults(faults ...oneFault) faultyFetch {
	slices.SortStableFunc(faults, func(a, b oneFault) int { return slices.Compare(a.rank[:], b.rank[:]) })
	out := faultyFetch{f: fetchOf(4, 4, 4), code: faults[0].code}
	for _, one := range slices.Backward(faults) {
		one.turn(&out.f)
		out.name = one.name + ", " + out.name
	}
	return out
}

func faultyFetches() []faultyFetch {
	var list []faultyFetch
	for _, one := range allFaults() {
		list = append(list, withFaults(one))
	}
	return list
}

func wantFetchFault(t *testing.T, f faultyFetch) {
	t.Helper()
	if code := impl.FetchFault(f.f); code != f.code {
		t.Errorf("%s: %d, not %d", f.name, code, f.code)
	}
	if code := fetchFaultByHand(f.f); code != f.code {
		t.Errorf("%s: the test itself says %d and %d", f.name, code, f.code)
	}
}

func TestFetchFault(t *testing.T) {
	for _, f := range faultyFetches() {
		wantFetchFault(t, f)
	}
}

// TestTwoFaultsOfFetches: the document's order tells which one is the answer, whatever the other one is.
func TestTwoFaultsOfFetches(t *testing.T) {
	all := allFaults()
	for i, one := range all {
		for _, other := range all[i+1:] {
			if one.field != other.field {
				wantFetchFault(t, withFaults(one, other))
			}
		}
	}
}

func TestFetchFaultKnown(t *testing.T) {
	a, b, none := digestsOfTexts("a")[0], digestsOfTexts("b")[0], int64(-1)
	chunk, wrong := chunksOf("a"), []impl.Chunk{{Digest: a, Bytes: []byte("b")}}
	many := make([]impl.Want, 13)
	for _, f := range []faultyFetch{
		{"13 times the zero want", impl.Fetch{Wants: many}, impl.ErrMany},
		{"12 times the zero want", impl.Fetch{Wants: many[:12]}, impl.ErrTaken},
		{"41 times 0", impl.Fetch{Failed: make([]int64, 41)}, impl.ErrMany},
		{"40 times 0", impl.Fetch{Failed: make([]int64, 40)}, impl.ErrTaken},
		{"other bytes, and 13 wants", impl.Fetch{Wants: many, Chunks: wrong}, impl.ErrSum},
		{"other bytes, and 41 Failed", impl.Fetch{Failed: make([]int64, 41), Chunks: wrong}, impl.ErrSum},
		{"13 wants and 41 Failed", impl.Fetch{Wants: many, Failed: make([]int64, 41)}, impl.ErrMany},
		{"a want of no digest, and 41 Failed", impl.Fetch{Wants: []impl.Want{{Digest: -1}}, Failed: make([]int64, 41)}, impl.ErrMany},
		{"no Tries, and wanted twice", impl.Fetch{Wants: []impl.Want{{Digest: a}, {Digest: a, Tries: 3}}}, impl.ErrRange},
		{"wanted twice with other Tries", impl.Fetch{Wants: []impl.Want{{Digest: a, Tries: 1}, {Digest: a, Tries: 2}}}, impl.ErrTaken},
		{"wanted twice, not side by side", impl.Fetch{Wants: []impl.Want{{Digest: a}, {Digest: b}, {Digest: a}}}, impl.ErrTaken},
		{"no digest twice", impl.Fetch{Wants: []impl.Want{{Digest: none}, {Digest: none}}}, impl.ErrRange},
		{"no digest, wanted and failed", impl.Fetch{Wants: []impl.Want{{Digest: none}}, Failed: []int64{none}}, impl.ErrRange},
		{"a want that is a chunk, then one of no digest", impl.Fetch{Wants: []impl.Want{{Digest: a}, {Digest: none}}, Chunks: chunk}, impl.ErrTaken},
		{"a want that failed, then no digest failed", impl.Fetch{Wants: []impl.Want{{Digest: a}}, Failed: []int64{none, a}}, impl.ErrTaken},
		{"a want that failed twice", impl.Fetch{Wants: []impl.Want{{Digest: a}}, Failed: []int64{a, a}}, impl.ErrTaken},
		{"wanted, failed and there", impl.Fetch{Wants: []impl.Want{{Digest: a}}, Failed: []int64{a}, Chunks: chunk}, impl.ErrTaken},
		{"failed twice, not side by side", impl.Fetch{Failed: []int64{a, b, a}}, impl.ErrTaken},
		{"failed twice, then no digest", impl.Fetch{Failed: []int64{a, a, none}}, impl.ErrTaken},
		{"no digest failed, then failed twice", impl.Fetch{Failed: []int64{none, a, a}}, impl.ErrRange},
		{"failed and there", impl.Fetch{Failed: []int64{b, a}, Chunks: chunk}, impl.ErrTaken},
		{"failed and there, by other bytes", impl.Fetch{Failed: digestsOfTexts(secondOfTwo), Chunks: chunksOf(firstOfTwo)}, impl.ErrTaken},
		{"no digest failed twice", impl.Fetch{Failed: []int64{none, none}}, impl.ErrRange},
		{"Tries, ahead of a digest that failed and is none", impl.Fetch{Wants: []impl.Want{{Digest: b, Tries: -1}}, Failed: []int64{none}}, impl.ErrRange},
	} {
		wantFetchFault(t, f)
	}
}

// wantAllCode asks all functions but FetchFault for one code, with nothing else in the answer.
func wantAllCode(t *testing.T, name string, f impl.Fetch, digest int64, data []byte, layer []impl.Entry, code int64) {
	t.Helper()
	want := fetchCode(code)
	wantAnswer(t, "AskFetch "+name, impl.AskFetch(f, digest), want)
	wantAnswer(t, "HearFetch "+name, impl.HearFetch(f, digest, data), want)
	wantAnswer(t, "LoseFetch "+name, impl.LoseFetch(f, digest), want)
	wantAnswer(t, "AskLayer "+name, impl.AskLayer(f, layer), want)
	wantAnswer(t, "ForgetFailed "+name, impl.ForgetFailed(f), want)
}

// TestFaultOfTheFetchComesFirst hands each faulty fetch in with other arguments that are right and that are wrong.
func TestFaultOfTheFetchComesFirst(t *testing.T) {
	texts, faulty := textsToFetch(), faultyLists()
	datas := [][]byte{nil, []byte(texts[0]), []byte(texts[3]), []byte(texts[20]), []byte(texts[60]), []byte(texts[100]), countedBytes(9), countedBytes(100)}
	digests := append(digestsOfTexts(texts[0], texts[3], texts[20], texts[60], texts[100]), -1, 1<<32)
	layers := [][]impl.Entry{nil, layerOf(fileAt("/a", texts[0])), layerOf(fileAt("/a", texts[100])), numberedFiles("m", 12)}
	all := faultyFetches()
	for i := range all {
		f := all[i]
		for j, digest := range digests {
			wantAllCode(t, f.name, f.f, digest, datas[(i+j)%len(datas)], layers[(i+j)%len(layers)], f.code)
			wantAllCode(t, f.name, f.f, digest, datas[j%len(datas)], faulty[(i*7+j)%len(faulty)].layer, f.code)
		}
	}
}

// wantOneFetch holds an answer against the model's, and asks of it what promise 11 says of every answer.
func wantOneFetch(t *testing.T, name func() string, got impl.FetchResult, want impl.FetchResult) {
	t.Helper()
	if told(got) != told(want) {
		t.Fatalf("%s: %s, not %s", name(), told(got), told(want))
	}
	if code := impl.FetchFault(got.Fetch); code != impl.OK {
		t.Fatalf("%s leaves the fault %d", name(), code)
	}
	for _, c := range got.Fetch.Chunks {
		if len(c.Bytes) < 1 || len(c.Bytes) > 8 || digestByLibrary(c.Bytes) != c.Digest {
			t.Fatalf("%s leaves the bytes %q for %d", name(), c.Bytes, c.Digest)
		}
	}
}

// wantFetch asks all functions at one digest, with some bytes heard of it, and with a layer.
func wantFetch(t *testing.T, f impl.Fetch, digest int64, layer []impl.Entry, heard ...string) {
	t.Helper()
	named := func(what string) func() string {
		return func() string { return what + " in " + told(f) }
	}
	wantOneFetch(t, named(fmt.Sprint("AskFetch ", digest)), impl.AskFetch(f, digest), askByHand(f, digest))
	wantOneFetch(t, named(fmt.Sprint("LoseFetch ", digest)), impl.LoseFetch(f, digest), loseByHand(f, digest))
	wantOneFetch(t, named("ForgetFailed"), impl.ForgetFailed(f), forgetByHand(f))
	wantOneFetch(t, named("AskLayer "+told(layer)), impl.AskLayer(f, layer), askLayerByHand(f, layer))
	for _, data := range heard {
		wantOneFetch(t, named(fmt.Sprintf("HearFetch %d %q", digest, data)), impl.HearFetch(f, digest, []byte(data)), hearByHand(f, digest, []byte(data)))
	}
}

// TestAllFetchesAtAllDigests: each digest that a fetch knows, some that it does not, and numbers that are none.
func TestAllFetchesAtAllDigests(t *testing.T) {
	texts := append(textsToFetch(), bytesOfZero, bytesOfOne, bytesOfLargest, firstOfTwo, secondOfTwo, "a", "", "abcdefghi")
	for i, f := range rightFetches() {
		for j, text := range texts {
			if len(f.Wants)+len(f.Failed)+len(f.Chunks) > 60 && (i+j)%5 > 0 {
				continue
			}
			other := texts[(j+7)%len(texts)]
			layer := layerOf(fileAt("/a", text+other), fileAt("/b", other), fileAt("/c", text))
			wantFetch(t, f, digestByLibrary([]byte(text)), layer, text, other, "", text+"x")
		}
		for _, no := range noDigests() {
			wantFetch(t, f, no, nil, "a", "", bytesOfZero, bytesOfLargest)
		}
	}
}

func TestFetchOfNothing(t *testing.T) {
	d := digestsOfTexts("abc")[0]
	for _, f := range []impl.Fetch{{}, {Wants: []impl.Want{}, Failed: []int64{}, Chunks: []impl.Chunk{}}} {
		wantAnswer(t, "ask", impl.AskFetch(f, d), fetchIs(impl.Fetch{Wants: []impl.Want{{Digest: d}}}))
		wantAnswer(t, "ask for 0", impl.AskFetch(f, 0), fetchIs(impl.Fetch{Wants: []impl.Want{{}}}))
		wantAnswer(t, "ask for the largest", impl.AskFetch(f, math.MaxUint32), fetchIs(impl.Fetch{Wants: []impl.Want{{Digest: math.MaxUint32}}}))
		wantAnswer(t, "hear", impl.HearFetch(f, d, []byte("abc")), fetchCode(impl.ErrNone))
		wantAnswer(t, "hear what is wrong", impl.HearFetch(f, d, []byte("abd")), fetchCode(impl.ErrNone))
		wantAnswer(t, "hear nothing", impl.HearFetch(f, d, nil), fetchCode(impl.ErrNone))
		wantAnswer(t, "hear of 0", impl.HearFetch(f, 0, []byte(bytesOfZero)), fetchCode(impl.ErrNone))
		wantAnswer(t, "lose", impl.LoseFetch(f, d), fetchCode(impl.ErrNone))
		wantAnswer(t, "lose 0", impl.LoseFetch(f, 0), fetchCode(impl.ErrNone))
		wantAnswer(t, "a layer of nothing", impl.AskLayer(f, nil), fetchIs(impl.Fetch{}))
		wantAnswer(t, "a layer", impl.AskLayer(f, layerOf(fileAt("/a", "abc"))), fetchIs(impl.Fetch{Wants: []impl.Want{{Digest: d}}}))
		wantAnswer(t, "forget", impl.ForgetFailed(f), fetchIs(impl.Fetch{}))
		for _, no := range noDigests() {
			wantAnswer(t, "ask for none", impl.AskFetch(f, no), fetchCode(impl.ErrRange))
			wantAnswer(t, "hear of none", impl.HearFetch(f, no, []byte("abc")), fetchCode(impl.ErrNone))
			wantAnswer(t, "lose none", impl.LoseFetch(f, no), fetchCode(impl.ErrNone))
		}
	}
}

// TestAskForKnown: a digest that is wanted, is there, has failed, is new or is none, in a fetch with room and in one without.
func TestAskForKnown(t *testing.T) {
	texts := textsToFetch()
	for _, wants := range []int{1, 2, 11, 12} {
		f := fetchOf(wants, 3, 4)
		for i, w := range f.Wants {
			wantAnswer(t, fmt.Sprint("ask for want ", i, " of ", wants), impl.AskFetch(f, w.Digest), fetchIs(f))
		}
		for i, c := range f.Chunks {
			wantAnswer(t, fmt.Sprint("ask for chunk ", i), impl.AskFetch(f, c.Digest), fetchIs(f))
		}
		for i, digest := range f.Failed {
			wantAnswer(t, fmt.Sprint("ask for failed ", i), impl.AskFetch(f, digest), fetchCode(impl.ErrAway))
		}
		for _, no := range noDigests() {
			wantAnswer(t, "ask for none", impl.AskFetch(f, no), fetchCode(impl.ErrRange))
		}
		fresh := digestsOfTexts(texts[100])[0]
		want := f
		want.Wants = slices.Concat(f.Wants, []impl.Want{{Digest: fresh}})
		if wants == 12 {
			wantAnswer(t, "ask for one more", impl.AskFetch(f, fresh), fetchCode(impl.ErrMany))
			continue
		}
		wantAnswer(t, "ask for a new one", impl.AskFetch(f, fresh), fetchIs(want))
		wantAnswer(t, "ask for it again", impl.AskFetch(want, fresh), fetchIs(want))
	}
}

// TestWantsStandAsTheyWereAskedFor asks for digests that rise, fall and do neither, until there is no room.
func TestWantsStandAsTheyWereAskedFor(t *testing.T) {
	some := digestsOfTexts(textsToFetch()[:13]...)
	rising := slices.Sorted(slices.Values(some))
	falling := slices.Clone(rising)
	slices.Reverse(falling)
	for _, digests := range [][]int64{some, rising, falling} {
		var f impl.Fetch
		for i, digest := range digests[:12] {
			got := impl.AskFetch(f, digest)
			want := impl.Fetch{Wants: slices.Concat(f.Wants, []impl.Want{{Digest: digest}})}
			wantAnswer(t, fmt.Sprint("ask for ", i), got, fetchIs(want))
			f = got.Fetch
			wantAnswer(t, fmt.Sprint("ask again for ", i), impl.AskFetch(f, digest), fetchIs(f))
			wantAnswer(t, "ask again for the first one", impl.AskFetch(f, digests[0]), fetchIs(f))
		}
		wantAnswer(t, "ask for the 13th", impl.AskFetch(f, digests[12]), fetchCode(impl.ErrMany))
	}
}

// afterWant: the fetch without its want of one place.
func afterWant(f impl.Fetch, place int) impl.Fetch {
	f.Wants = slices.Concat(f.Wants[:place], f.Wants[place+1:])
	return f
}

// TestBytesOfAllLengthsAreHeard: just 1 to ChunkBytes bytes of the digest come to be a chunk, and the want goes from its place.
func TestBytesOfAllLengthsAreHeard(t *testing.T) {
	for n := range 30 {
		data := string(countedBytes(n + 3)[3:])
		digest := digestByLibrary([]byte(data))
		for place := range 4 {
			for tries := range int64(3) {
				f := fetchOf(3, 2, 2)
				f.Wants = slices.Insert(f.Wants, place, impl.Want{Digest: digest, Tries: tries})
				f.Chunks = chunksOf(string(f.Chunks[0].Bytes), bytesOfZero, bytesOfLargest)
				name := fmt.Sprintf("hear %d bytes at place %d with %d Tries", n, place, tries)
				want := loseByHand(f, digest)
				if n >= 1 && n <= 8 {
					left := afterWant(f, place)
					left.Chunks = chunksOf(string(f.Chunks[1].Bytes), bytesOfZero, bytesOfLargest, data)
					want = fetchIs(left)
				}
				wantAnswer(t, name, impl.HearFetch(f, digest, []byte(data)), want)
			}
		}
	}
}

// TestBytesOfAnotherDigest: bytes one beside the right ones, cut, longer, of another want, of a chunk, of one that failed; all of them count as lost.
func TestBytesOfAnotherDigest(t *testing.T) {
	f := fetchOf(12, 4, 5)
	texts := textsToFetch()
	for place, w := range f.Wants {
		right := texts[place]
		wrong := []string{"", right[1:], right + "\x00", right + right + "12345678", "\x00" + right, texts[(place+1)%12], texts[20], texts[60], texts[100], string(countedBytes(9)), string(countedBytes(1 << 12))}
		for i := range right {
			other := []byte(right)
			other[i] ^= 1
			wrong = append(wrong, string(other))
		}
		lost := impl.LoseFetch(f, w.Digest)
		for _, data := range wrong {
			wantAnswer(t, fmt.Sprintf("hear %q for %q", data, right), impl.HearFetch(f, w.Digest, []byte(data)), lost)
		}
		wantAnswer(t, "hear nil", impl.HearFetch(f, w.Digest, nil), lost)
		if got := impl.HearFetch(f, w.Digest, []byte(right)); len(got.Fetch.Chunks) != 6 || len(got.Fetch.Wants) != 11 {
			t.Errorf("hear %q: %s", right, told(got))
		}
	}
}

// nearTexts: two texts whose digests are two, but alike in the bits of the mask.
func nearTexts(mask int64) (string, string) {
	first := map[int64]string{}
	for i := 0; ; i++ {
		text := fmt.Sprintf("%07d", i)
		digest := digestsOfTexts(text)[0]
		other, there := first[digest&mask]
		if there && digestsOfTexts(other)[0] != digest {
			return other, text
		}
		first[digest&mask] = text
	}
}

// TestBytesOfANearDigest: bytes whose digest is nearly the one that is wanted are as wrong as others.
func TestBytesOfANearDigest(t *testing.T) {
	for _, mask := range []int64{0xff, 0xffff, 0xffffff, 0xffffff00, 0xffff0000, 0xfffff00f, 0x7fffff} {
		near, right := nearTexts(mask)
		digest := digestsOfTexts(right)[0]
		f := impl.Fetch{Wants: []impl.Want{{Digest: digest}}}
		wantAnswer(t, "hear "+near+" for "+right, impl.HearFetch(f, digest, []byte(near)), fetchIs(impl.Fetch{Wants: []impl.Want{{Digest: digest, Tries: 1}}}))
		wantAnswer(t, "hear "+right, impl.HearFetch(f, digest, []byte(right)), fetchIs(impl.Fetch{Chunks: chunksOf(right)}))
		wantAnswer(t, "hear of "+near+" for "+right, impl.HearFetch(f, digestsOfTexts(near)[0], []byte(near)), fetchCode(impl.ErrNone))
	}
}

// TestTwoTextsOfOneDigest: bytes are held against their digest alone, so that either text comes to be the chunk, and stays.
func TestTwoTextsOfOneDigest(t *testing.T) {
	for _, texts := range [][]string{{firstOfTwo, secondOfTwo}, {secondOfTwo, firstOfTwo}} {
		digest := digestsOfTexts(texts[0])[0]
		f := impl.Fetch{Wants: []impl.Want{{Digest: digest, Tries: 2}}}
		got := impl.HearFetch(f, digest, []byte(texts[0]))
		wantAnswer(t, "hear "+texts[0], got, fetchIs(impl.Fetch{Chunks: chunksOf(texts[0])}))
		wantAnswer(t, "hear the other one", impl.HearFetch(got.Fetch, digest, []byte(texts[1])), fetchCode(impl.ErrNone))
		wantAnswer(t, "ask for the other one", impl.AskFetch(got.Fetch, digestsOfTexts(texts[1])[0]), got)
	}
}

// TestEndsOfTheDigests: 0 and the largest digest are wanted, heard and lost as all others are.
func TestEndsOfTheDigests(t *testing.T) {
	for _, text := range []string{bytesOfZero, bytesOfOne, bytesNextBelow, bytesOfLargest} {
		digest := digestsOfTexts(text)[0]
		wanted := impl.AskFetch(impl.Fetch{}, digest)
		wantAnswer(t, "ask for "+text, wanted, fetchIs(impl.Fetch{Wants: []impl.Want{{Digest: digest}}}))
		wantAnswer(t, "hear "+text, impl.HearFetch(wanted.Fetch, digest, []byte(text)), fetchIs(impl.Fetch{Chunks: chunksOf(text)}))
		wantAnswer(t, "lose "+text, impl.LoseFetch(wanted.Fetch, digest), fetchIs(impl.Fetch{Wants: []impl.Want{{Digest: digest, Tries: 1}}}))
		for _, beside := range []int64{digest + 1<<32, digest - 1<<32} {
			wantAnswer(t, "ask beside "+text, impl.AskFetch(wanted.Fetch, beside), fetchCode(impl.ErrRange))
			wantAnswer(t, "hear beside "+text, impl.HearFetch(wanted.Fetch, beside, []byte(text)), fetchCode(impl.ErrNone))
			wantAnswer(t, "lose beside "+text, impl.LoseFetch(wanted.Fetch, beside), fetchCode(impl.ErrNone))
		}
	}
}

// TestHeardTwice: what has become a chunk is not wanted, whatever is heard of it then; what was wrong is wrong again.
func TestHeardTwice(t *testing.T) {
	for _, start := range []impl.Fetch{{}, fetchOf(1, 0, 0), fetchOf(11, 40, 39), fetchOf(5, 3, 4)} {
		digest := digestsOfTexts("twice")[0]
		wanted := impl.AskFetch(start, digest).Fetch
		heard := impl.HearFetch(wanted, digest, []byte("twice"))
		want := start
		want.Chunks = chunksOf(append(textsIn(start.Chunks), "twice")...)
		wantAnswer(t, "heard", heard, fetchIs(want))
		for _, data := range []string{"twice", "wrong", "", "twice and longer"} {
			wantAnswer(t, "heard again: "+data, impl.HearFetch(heard.Fetch, digest, []byte(data)), fetchCode(impl.ErrNone))
		}
		wantAnswer(t, "lost behind it", impl.LoseFetch(heard.Fetch, digest), fetchCode(impl.ErrNone))
		wantAnswer(t, "asked for behind it", impl.AskFetch(heard.Fetch, digest), heard)
		wantAnswer(t, "asked for by a layer behind it", impl.AskLayer(heard.Fetch, layerOf(fileAt("/a", "twice"))), heard)
	}
	for _, second := range []string{"wrong", "other", "", "wrong and longer"} {
		digest := digestsOfTexts("right")[0]
		f := fetchOf(3, 2, 1)
		f.Wants = slices.Insert(f.Wants, 1, impl.Want{Digest: digest})
		once := impl.HearFetch(f, digest, []byte("wrong")).Fetch
		twice := impl.HearFetch(once, digest, []byte(second)).Fetch
		if once.Wants[1].Tries != 1 || twice.Wants[1].Tries != 2 || len(twice.Wants) != 4 {
			t.Errorf("wrong bytes, then %q: %s, then %s", second, told(once), told(twice))
		}
		right := afterWant(f, 1)
		right.Chunks = chunksOf(append(textsIn(f.Chunks), "right")...)
		wantAnswer(t, "right behind wrong", impl.HearFetch(once, digest, []byte("right")), fetchIs(right))
		wantAnswer(t, "right behind wrong twice", impl.HearFetch(twice, digest, []byte("right")), fetchIs(right))
		failed := afterWant(f, 1)
		failed.Failed = slices.Concat(f.Failed, []int64{digest})
		wantAnswer(t, "wrong thrice", impl.HearFetch(twice, digest, []byte(second)), fetchIs(failed))
		wantAnswer(t, "right behind wrong thrice", impl.HearFetch(failed, digest, []byte("right")), fetchCode(impl.ErrNone))
		wantAnswer(t, "wrong a fourth time", impl.HearFetch(failed, digest, []byte(second)), fetchCode(impl.ErrNone))
		wantAnswer(t, "lost a fourth time", impl.LoseFetch(failed, digest), fetchCode(impl.ErrNone))
	}
}

func textsIn(chunks []impl.Chunk) []string {
	var texts []string
	for _, c := range chunks {
		texts = append(texts, string(c.Bytes))
	}
	return texts
}

// TestTheLastTry: a want of each place with each number of Tries, lost and heard wrong; what it leaves is written out.
func TestTheLastTry(t *testing.T) {
	for _, wants := range []int{1, 2, 5, 12} {
		for _, failed := range []int{0, 1, 3, 39} {
			for place := range wants {
				for tries := range int64(3) {
					f := fetchOf(wants, failed, 2)
					digest := f.Wants[place].Digest
					f.Wants[place].Tries = tries
					want := f
					if tries < 2 {
						want.Wants = slices.Clone(f.Wants)
						want.Wants[place].Tries = tries + 1
					} else {
						want = afterWant(f, place)
						want.Failed = slices.Concat(f.Failed, []int64{digest})
					}
					name := fmt.Sprintf("place %d of %d wants with %d Tries, %d Failed", place, wants, tries, failed)
					wantAnswer(t, "lose "+name, impl.LoseFetch(f, digest), fetchIs(want))
					wantAnswer(t, "hear wrong at "+name, impl.HearFetch(f, digest, []byte("wrong")), fetchIs(want))
					wantAnswer(t, "hear nothing at "+name, impl.HearFetch(f, digest, nil), fetchIs(want))
					wantAnswer(t, "hear too much at "+name, impl.HearFetch(f, digest, countedBytes(9)), fetchIs(want))
				}
			}
		}
	}
}

// TestFailedStandAsTheyFailed: those that fail one behind the other stand so in Failed, whatever their place among Wants was.
func TestFailedStandAsTheyFailed(t *testing.T) {
	for _, order := range [][]int{{0, 1, 2, 3, 4}, {4, 3, 2, 1, 0}, {2, 0, 4, 1, 3}} {
		f := fetchOf(5, 2, 1)
		want := slices.Clone(f.Failed)
		wants := slices.Clone(f.Wants)
		for _, place := range order {
			digest := wants[place].Digest
			want = append(want, digest)
			for tries := wants[place].Tries; tries < 3; tries++ {
				f = impl.LoseFetch(f, digest).Fetch
			}
			if !slices.Equal(f.Failed, want) {
				t.Fatalf("Failed is %v, not %v", f.Failed, want)
			}
			wantAnswer(t, "ask for what failed", impl.AskFetch(f, digest), fetchCode(impl.ErrAway))
		}
		if len(f.Wants) != 0 || len(f.Chunks) != 1 {
			t.Errorf("left: %s", told(f))
		}
	}
}

// wantRoom asks for a code, with nothing else in the answer where it is not OK.
func wantRoom(t *testing.T, name string, got impl.FetchResult, code int64) {
	t.Helper()
	if got.Code != code || code != impl.OK && told(got) != told(fetchCode(code)) {
		t.Errorf("%s: %s, not %d", name, told(got), code)
	}
}

// TestRoomOfFetches: one below the bounds, just at them, and what each function answers there.
func TestRoomOfFetches(t *testing.T) {
	texts := textsToFetch()
	fresh, layer := digestsOfTexts(texts[100])[0], layerOf(fileAt("/a", texts[100]))
	for _, k := range []struct {
		wants, failed, chunks int
		ask, hear, last       int64
	}{
		{11, 39, 39, impl.OK, impl.OK, impl.OK},
		{12, 39, 39, impl.ErrMany, impl.OK, impl.OK},
		{11, 40, 39, impl.OK, impl.OK, impl.ErrMany},
		{11, 39, 40, impl.OK, impl.ErrMany, impl.OK},
		{12, 40, 40, impl.ErrMany, impl.ErrMany, impl.ErrMany},
		{1, 40, 40, impl.OK, impl.ErrMany, impl.ErrMany},
	} {
		f := fetchOf(k.wants, k.failed, k.chunks)
		name := fmt.Sprintf("with %d, %d and %d", k.wants, k.failed, k.chunks)
		for _, one := range []struct {
			what string
			got  impl.FetchResult
			code int64
		}{
			{"ask", impl.AskFetch(f, fresh), k.ask},
			{"ask for a want", impl.AskFetch(f, f.Wants[0].Digest), impl.OK},
			{"ask for a chunk", impl.AskFetch(f, f.Chunks[0].Digest), impl.OK},
			{"ask for a failed one", impl.AskFetch(f, f.Failed[0]), impl.ErrAway},
			{"a layer", impl.AskLayer(f, layer), k.ask},
			{"a layer of nothing", impl.AskLayer(f, nil), impl.OK},
			{"a layer of what failed", impl.AskLayer(f, layerOf(fileAt("/a", texts[20]))), impl.OK},
			{"a layer of what is wanted", impl.AskLayer(f, layerOf(fileAt("/a", texts[0]))), impl.OK},
			{"a layer of what is there", impl.AskLayer(f, layerOf(fileAt("/a", texts[60]))), impl.OK},
			{"hear", impl.HearFetch(f, f.Wants[0].Digest, []byte(texts[0])), k.hear},
			{"hear wrong bytes", impl.HearFetch(f, f.Wants[0].Digest, []byte(texts[1])), impl.OK},
			{"hear what is a chunk", impl.HearFetch(f, f.Chunks[0].Digest, f.Chunks[0].Bytes), impl.ErrNone},
			{"lose a first try", impl.LoseFetch(f, f.Wants[0].Digest), impl.OK},
			{"lose a failed one", impl.LoseFetch(f, f.Failed[0]), impl.ErrNone},
			{"forget", impl.ForgetFailed(f), impl.OK},
		} {
			wantRoom(t, one.what+" "+name, one.got, one.code)
		}
		f.Wants[0].Tries = 2
		wantRoom(t, "lose the last try "+name, impl.LoseFetch(f, f.Wants[0].Digest), k.last)
		wantRoom(t, "hear wrong bytes at the last try "+name, impl.HearFetch(f, f.Wants[0].Digest, []byte("wrong")), k.last)
		wantRoom(t, "hear at the last try "+name, impl.HearFetch(f, f.Wants[0].Digest, []byte(texts[0])), k.hear)
		for _, text := range texts {
			wantFetch(t, f, digestByLibrary([]byte(text)), layer, text, "wrong")
		}
	}
}

// wantsOfLayer: what is wanted behind a layer that is asked for in an empty fetch.
func wantsOfLayer(digests ...int64) impl.FetchResult {
	var wants []impl.Want
	for _, digest := range digests {
		wants = append(wants, impl.Want{Digest: digest})
	}
	return fetchIs(impl.Fetch{Wants: wants})
}

func TestAskLayerKnown(t *testing.T) {
	one, two, three := "aaaaaaaa", "bbbbbbbb", "cccccccc"
	d := digestsOfTexts(one, two, three)
	for _, k := range []struct {
		name  string
		layer []impl.Entry
		want  impl.FetchResult
	}{
		{"nothing", nil, wantsOfLayer()},
		{"no files", layerOf(dirAt("/a"), whiteAt("/a/b"), opaqueAt("/b")), wantsOfLayer()},
		{"files of no bytes", layerOf(fileAt("/a", ""), fileAt("/b", "")), wantsOfLayer()},
		{"one file", layerOf(fileAt("/a", one+two+three)), wantsOfLayer(d...)},
		{"the other way round", layerOf(fileAt("/a", three+two+one)), wantsOfLayer(d[2], d[1], d[0])},
		{"one chunk thrice", layerOf(fileAt("/a", one+one+one)), wantsOfLayer(d[0])},
		{"files that share a chunk", layerOf(fileAt("/a", two+one), fileAt("/b", one+three), fileAt("/c", three+two)), wantsOfLayer(d[1], d[0], d[2])},
		{"the same file twice", layerOf(fileAt("/a", two), fileAt("/b", two)), wantsOfLayer(d[1])},
		{"below directories", layerOf(dirAt("/a"), fileAt("/a/b", three), opaqueAt("/a/c"), fileAt("/a/c/d", one), whiteAt("/b"), fileAt("/c", two)), wantsOfLayer(d[2], d[0], d[1])},
		{"the ends of the digests", layerOf(fileAt("/a", bytesOfLargest+bytesOfZero)), wantsOfLayer(math.MaxUint32, 0)},
	} {
		wantAnswer(t, "ask for a layer of "+k.name, impl.AskLayer(impl.Fetch{}, k.layer), k.want)
		wantAnswer(t, "again for a layer of "+k.name, impl.AskLayer(k.want.Fetch, k.layer), k.want)
	}
}

// TestAskLayerOfWhatIsKnown: of the files' chunks some are there, are wanted with some Tries, have failed or are new.
func TestAskLayerOfWhatIsKnown(t *testing.T) {
	there, wanted, failed, fresh := "thereisa", "wanted!!", "failed!!", "new one!"
	d := digestsOfTexts(there, wanted, failed, fresh)
	f := impl.Fetch{Wants: []impl.Want{{Digest: 5, Tries: 1}, {Digest: d[1], Tries: 2}}, Failed: []int64{7, d[2]}, Chunks: chunksOf(there, "beside")}
	with := f
	with.Wants = slices.Concat(f.Wants, []impl.Want{{Digest: d[3]}})
	for _, k := range []struct {
		name  string
		layer []impl.Entry
		want  impl.Fetch
	}{
		{"all there", layerOf(fileAt("/a", there)), f},
		{"all wanted", layerOf(fileAt("/a", wanted)), f},
		{"all failed", layerOf(fileAt("/a", failed)), f},
		{"all of these", layerOf(fileAt("/a", failed+there+wanted), fileAt("/b", wanted+failed)), f},
		{"a new one last", layerOf(fileAt("/a", failed+there+wanted), fileAt("/b", fresh)), with},
		{"a new one first", layerOf(fileAt("/a", fresh+failed+there), fileAt("/b", wanted)), with},
		{"a new one between", layerOf(fileAt("/a", failed), fileAt("/b", fresh+fresh+failed), fileAt("/c", fresh)), with},
	} {
		wantAnswer(t, k.name, impl.AskLayer(f, k.layer), fetchIs(k.want))
		wantAnswer(t, k.name+", again", impl.AskLayer(k.want, k.layer), fetchIs(k.want))
	}
}

// TestRoomEndsWithinTheLayer: as many new chunks as there is room for, and one more, at the beginning, within and at the end of the layer.
func TestRoomEndsWithinTheLayer(t *testing.T) {
	texts := textsToFetch()
	var eights []string
	for i := range 36 {
		eights = append(eights, string(countedBytes(8*i + 8)[8*i:]))
	}
	for wants := range 13 {
		f := fetchOf(wants, 4, 4)
		known := []string{texts[20], texts[0], string(f.Chunks[0].Bytes), texts[23]}[:min(4, 1+3*min(wants, 1))]
		for n := range 14 {
			var layer []impl.Entry
			for i := 0; i < n; i += 3 {
				data := ""
				for _, eight := range eights[i:min(i+3, n)] {
					data += eight
				}
				layer = append(layer, fileAt("/m"+string(rune('a'+i)), data))
			}
			want := fetchCode(impl.ErrMany)
			if wants+n <= 12 {
				left := f
				left.Wants = slices.Concat(f.Wants, wantsOf([]int64{0}, eights[:n]...))
				want = fetchIs(left)
			}
			name := fmt.Sprintf("%d new chunks with %d wants", n, wants)
			wantAnswer(t, name, impl.AskLayer(f, layer), want)
			for i, text := range known {
				ahead := slices.Concat(layerOf(fileAt("/a"+string(rune('a'+i)), text)), layer)
				behind := slices.Concat(layer, layerOf(fileAt("/z"+string(rune('a'+i)), text)))
				wantAnswer(t, name+", what is known ahead", impl.AskLayer(f, ahead), want)
				wantAnswer(t, name+", what is known behind", impl.AskLayer(f, behind), want)
			}
		}
	}
	var most []impl.Entry
	for i := range 12 {
		most = append(most, fileAt("/m"+string(rune('a'+i)), eights[3*i]+eights[3*i+1]+eights[3*i+2]))
	}
	wantAnswer(t, "the most that a layer needs", impl.AskLayer(impl.Fetch{}, most), fetchCode(impl.ErrMany))
}

// TestFaultsOfLayersAskedFor: the layer's code stands behind the fetch's, and ahead of what there is no room for.
func TestFaultsOfLayersAskedFor(t *testing.T) {
	for _, l := range faultyLayers() {
		for _, f := range []impl.Fetch{{}, fetchOf(3, 2, 2), fetchOf(12, 40, 40)} {
			wantAnswer(t, "a layer with "+l.name, impl.AskLayer(f, l.layer), fetchCode(l.code))
		}
		for _, f := range faultyFetches()[:14] {
			wantAnswer(t, f.name+" a layer with "+l.name, impl.AskLayer(f.f, l.layer), fetchCode(f.code))
		}
	}
	long := append(numberedFiles("m", 11), impl.Entry{Path: "/z", Kind: 1, Size: 1, Chunks: []int64{-1}})
	for wants := range 13 {
		wantAnswer(t, "no digest at the end of the layer", impl.AskLayer(fetchOf(wants, 1, 1), long), fetchCode(impl.ErrRange))
	}
}

// TestForgetFailed: all else stays, and what failed may be asked for again, as often as before.
func TestForgetFailed(t *testing.T) {
	for _, f := range rightFetches() {
		want := f
		want.Failed = nil
		got := impl.ForgetFailed(f)
		wantAnswer(t, "forget", got, fetchIs(want))
		wantAnswer(t, "forget again", impl.ForgetFailed(got.Fetch), got)
	}
	texts := textsToFetch()
	f := impl.ForgetFailed(fetchOf(2, 3, 2)).Fetch
	for i, digest := range digestsOfTexts(texts[20:23]...) {
		wantAnswer(t, "hear what was forgotten", impl.HearFetch(f, digest, []byte(texts[20+i])), fetchCode(impl.ErrNone))
		wantAnswer(t, "lose what was forgotten", impl.LoseFetch(f, digest), fetchCode(impl.ErrNone))
		asked := f
		asked.Wants = slices.Concat(f.Wants, []impl.Want{{Digest: digest}})
		wantAnswer(t, "ask for what was forgotten", impl.AskFetch(f, digest), fetchIs(asked))
		wantAnswer(t, "ask for a layer of what was forgotten", impl.AskLayer(f, layerOf(fileAt("/a", texts[20+i]))), fetchIs(asked))
		again := asked
		for range 3 {
			again = impl.LoseFetch(again, digest).Fetch
		}
		failed := f
		failed.Failed = []int64{digest}
		wantAnswer(t, "lost thrice again", fetchIs(again), fetchIs(failed))
		wantAnswer(t, "asked for then", impl.AskFetch(again, digest), fetchCode(impl.ErrAway))
	}
	if code := impl.AskFetch(impl.ForgetFailed(fetchOf(12, 40, 40)).Fetch, digestsOfTexts(texts[20])[0]).Code; code != impl.ErrMany {
		t.Errorf("ask for what was forgotten where there is no room: %d", code)
	}
}

// answersOfRegistries: what a registry may say when it is asked for a text, and whether that is right.
var answersOfRegistries = []struct {
	name  string
	right bool
	say   func(f impl.Fetch, digest int64, text string) impl.FetchResult
}{
	{"right", true, func(f impl.Fetch, digest int64, text string) impl.FetchResult {
		return impl.HearFetch(f, digest, []byte(text))
	}},
	{"lost", false, func(f impl.Fetch, digest int64, _ string) impl.FetchResult { return impl.LoseFetch(f, digest) }},
	{"nothing", false, func(f impl.Fetch, digest int64, _ string) impl.FetchResult { return impl.HearFetch(f, digest, nil) }},
	{"wrong", false, func(f impl.Fetch, digest int64, text string) impl.FetchResult {
		return impl.HearFetch(f, digest, []byte(text[1:]+"!"))
	}},
	{"long", false, func(f impl.Fetch, digest int64, text string) impl.FetchResult {
		return impl.HearFetch(f, digest, []byte(text+text+text+text+text+text+text+text+text))
	}},
	{"the first twice", false, func(f impl.Fetch, digest int64, text string) impl.FetchResult {
		return impl.HearFetch(f, digest, []byte(text[:1]+text))
	}},
}

// TestWhateverARegistryAnswers goes through all that a registry may say, answer by answer, until the text is wanted no more:
// it is a chunk if one of the first MaxTries answers is right, it has failed if none is, and no answer behind that counts.
func TestWhateverARegistryAnswers(t *testing.T) {
	text := "register"
	digest, kinds := digestsOfTexts(text)[0], len(answersOfRegistries)
	for _, start := range []impl.Fetch{{}, fetchOf(4, 3, 3)} {
		for run := range kinds * kinds * kinds * kinds {
			f, asked, name := impl.AskFetch(start, digest).Fetch, 0, ""
			want := start
			want.Failed = slices.Concat(start.Failed, []int64{digest})
			for answers := run; ; answers /= kinds {
				if wanted, _, _ := placesByHand(f, digest); wanted < 0 {
					break
				}
				answer := answersOfRegistries[answers%kinds]
				name += answer.name + ", "
				asked++
				got := answer.say(f, digest, text)
				if got.Code != impl.OK || asked > 3 {
					t.Fatalf("%s: answer %d: %s", name, asked, told(got))
				}
				f = got.Fetch
				if answer.right {
					want = start
					want.Chunks = chunksOf(append(textsIn(start.Chunks), text)...)
				}
			}
			wantAnswer(t, name, fetchIs(f), fetchIs(want))
			for _, late := range answersOfRegistries {
				wantAnswer(t, name+"then, too late, "+late.name, late.say(f, digest, text), fetchCode(impl.ErrNone))
			}
		}
	}
}

// TestManyStepsOfFetches goes on from fetch to fetch, beside the model and beside a count of what each digest was tried.
func TestManyStepsOfFetches(t *testing.T) {
	spread := uint32(71)
	next := func(n int) int {
		spread = spread*1664525 + 1013904223
		return int(spread>>8) % n
	}
	texts := textsToFetch()[:110]
	codes := map[string]int{}
	for run := range 60 {
		var f impl.Fetch
		tried := map[int64]int{}
		right := run % 6
		for range 500 {
			text := texts[next(len(texts))]
			if len(f.Wants) > 0 && next(3) > 0 {
				digest := f.Wants[next(len(f.Wants))].Digest
				text = texts[slices.Index(digestsOfTexts(texts...), digest)]
			}
			digest := digestsOfTexts(text)[0]
			var got, want impl.FetchResult
			var what string
			switch step := next(16); {
			case step < 5:
				what, got, want = "ask", impl.AskFetch(f, digest), askByHand(f, digest)
			case step < 6:
				layer := layerOf(fileAt("/a", text), dirAt("/b"), fileAt("/b/c", texts[next(len(texts))]), fileAt("/d", texts[next(len(texts))]))
				what, got, want = "layer", impl.AskLayer(f, layer), askLayerByHand(f, layer)
			case step < 15:
				what, got, want = "lose", impl.LoseFetch(f, digest), loseByHand(f, digest)
				if data := texts[next(len(texts))]; next(8) < right {
					what, got, want = "hear", impl.HearFetch(f, digest, []byte(text)), hearByHand(f, digest, []byte(text))
				} else if next(2) == 0 {
					what, got, want = "wrong", impl.HearFetch(f, digest, []byte(data)), hearByHand(f, digest, []byte(data))
				}
			case next(40) == 0:
				what, got, want = "forget", impl.ForgetFailed(f), forgetByHand(f)
				clear(tried)
				for _, w := range f.Wants {
					tried[w.Digest] = int(w.Tries)
				}
			default:
				continue
			}
			wantOneFetch(t, func() string { return what + " " + text + " in " + told(f) }, got, want)
			codes[fmt.Sprint(what, " ", got.Code)]++
			if got.Code != impl.OK {
				continue
			}
			f = got.Fetch
			if what == "lose" || what == "wrong" {
				if tried[digest]++; tried[digest] > 3 {
					t.Fatalf("%q came to nothing %d times", text, tried[digest])
				}
			}
		}
	}
	for _, code := range []string{"ask 0", "ask 2", "ask 8", "layer 0", "layer 2", "hear 0", "hear 2", "hear 4", "wrong 0", "wrong 4", "lose 0", "lose 2", "lose 4", "forget 0"} {
		if codes[code] < 20 {
			t.Errorf("%s came %d times alone", code, codes[code])
		}
	}
}
