package tests

import (
	"slices"
	"testing"

	"loop.example/g00299/impl"
)

// roomyFetch: the same fetch with room behind each of its lists, where an append would write.
func roomyFetch(f impl.Fetch) impl.Fetch {
	return impl.Fetch{
		Wants:  append(make([]impl.Want, 0, len(f.Wants)+4), f.Wants...),
		Failed: append(make([]int64, 0, len(f.Failed)+4), f.Failed...),
		Chunks: roomy(f.Chunks),
	}
}

// oneListChunks: the same chunks, with Bytes that are pieces of one list, which an answer may not go on sharing.
func oneListChunks(list []impl.Chunk) []impl.Chunk {
	var all []byte
	for _, c := range list {
		all = append(all, c.Bytes...)
	}
	out := slices.Clone(list)
	for i, c := range list {
		out[i].Bytes = all[:len(c.Bytes)]
		all = all[len(c.Bytes):]
	}
	return out
}

func oneListFetch() impl.Fetch {
	f := fetchOf(4, 3, 6)
	f.Chunks = oneListChunks(f.Chunks)
	return f
}

func memoryFetches() []impl.Fetch {
	fetches := []impl.Fetch{
		{}, fetchOf(1, 0, 0), fetchOf(0, 1, 0), fetchOf(0, 0, 1), fetchOf(4, 3, 5), fetchOf(11, 39, 39), fetchOf(12, 40, 40), fetchOf(3, 40, 2),
		{Wants: wantsOf([]int64{2}, "a", "abcdefgh", firstOfTwo, bytesOfZero), Failed: []int64{5, 1}, Chunks: chunksOf("b")},
	}
	for i, f := range faultyFetches() {
		if i%3 == 0 {
			fetches = append(fetches, f.f)
		}
	}
	for i, f := range fetches {
		fetches[i] = roomyFetch(f)
	}
	return append(fetches, oneListFetch(), impl.Fetch{})
}

// memoryDigests: digests of each list of the fetch, and some that are in none of them.
func memoryDigests(f impl.Fetch) []int64 {
	digests := []int64{-1, 1 << 32, 0, 5, chunkOf("a").Digest, chunkOf(firstOfTwo).Digest, chunkOf(textsToFetch()[100]).Digest}
	for _, w := range f.Wants[:min(4, len(f.Wants))] {
		digests = append(digests, w.Digest)
	}
	digests = append(digests, f.Failed[:min(2, len(f.Failed))]...)
	for _, c := range f.Chunks[:min(2, len(f.Chunks))] {
		digests = append(digests, c.Digest)
	}
	return digests
}

// memoryHeard: bytes that the first wants are of, and bytes that none is of.
func memoryHeard() [][]byte {
	datas := chunkDatas()
	for _, text := range textsToFetch()[:4] {
		datas = append(datas, append(make([]byte, 0, len(text)+8), text...))
	}
	return datas
}

func layersToAskFor() [][]impl.Entry {
	texts := textsToFetch()
	layers := [][]impl.Entry{
		nil, layerOf(fileAt("/a", texts[0])), layerOf(fileAt("/a", texts[100]), fileAt("/b", texts[20])), layerOf(dirAt("/a"), fallingFile("/a/b")),
		numberedFiles("m", 11), numberedFiles("m", 12), layerOf(impl.Entry{Path: "/a", Kind: 1, Size: 25}),
	}
	for i, layer := range layers {
		layers[i] = roomyLayer(layer)
	}
	return append(layers, oneListLayer())
}

func fetchCalls() []oneCall {
	var calls []oneCall
	add := func(name string, call func() any, arguments ...any) {
		calls = append(calls, oneCall{name, call, arguments})
	}
	datas, layers := memoryHeard(), layersToAskFor()
	for i, f := range memoryFetches() {
		add("FetchFault", func() any { return impl.FetchFault(f) }, f)
		add("ForgetFailed", func() any { return impl.ForgetFailed(f) }, f)
		for _, layer := range layers {
			add("AskLayer", func() any { return impl.AskLayer(f, layer) }, f, layer)
		}
		for j, digest := range memoryDigests(f) {
			add("AskFetch", func() any { return impl.AskFetch(f, digest) }, f)
			add("LoseFetch", func() any { return impl.LoseFetch(f, digest) }, f)
			data := datas[(i+j)%len(datas)]
			add("HearFetch", func() any { return impl.HearFetch(f, digest, data) }, f, data)
		}
		for _, data := range datas {
			add("HearFetch", func() any { return impl.HearFetch(f, impl.DigestOf(data), data) }, f, data)
		}
		for _, c := range f.Chunks[:min(2, len(f.Chunks))] {
			add("HearFetch of a chunk", func() any { return impl.HearFetch(f, c.Digest, c.Bytes) }, f)
		}
	}
	return calls
}

// TestFetchAnswersAreNewMemory also asks that each call comes back: a panic fails the test.
func TestFetchAnswersAreNewMemory(t *testing.T) {
	for _, c := range fetchCalls() {
		askMemory(t, c)
	}
}

func TestFetchAnswersHangOnArgumentsAlone(t *testing.T) {
	askOrder(t, fetchCalls())
}

func TestFetchAnswersAtOnce(t *testing.T) {
	askAtOnce(t, fetchCalls())
}

// answersOfFetch: each function at a fetch with room, where it answers with a fetch.
func answersOfFetch(f impl.Fetch, data []byte, layer []impl.Entry) []impl.FetchResult {
	digest := impl.DigestOf(data)
	answers := []impl.FetchResult{impl.AskFetch(f, 5), impl.AskFetch(f, digest), impl.AskLayer(f, layer), impl.AskLayer(f, nil), impl.ForgetFailed(f), impl.HearFetch(f, digest, data)}
	for _, w := range f.Wants {
		answers = append(answers, impl.AskFetch(f, w.Digest), impl.LoseFetch(f, w.Digest), impl.HearFetch(f, w.Digest, nil))
	}
	for _, c := range f.Chunks {
		answers = append(answers, impl.AskFetch(f, c.Digest))
	}
	return answers
}

// heardFetch: a fetch that wants data, has something in each list, and room for more.
func heardFetch(data []byte) impl.Fetch {
	f := fetchOf(6, 5, 7)
	f.Wants = slices.Insert(f.Wants, 2, impl.Want{Digest: impl.DigestOf(data), Tries: 1})
	return roomyFetch(f)
}

// TestFetchesOutliveTheArguments writes over all that was handed in, and asks the answers again.
func TestFetchesOutliveTheArguments(t *testing.T) {
	data, layer := []byte("heard"), roomyLayer(layerOf(fileAt("/a", "bytes of two"), fallingFile("/b")))
	f := heardFetch(data)
	answers := answersOfFetch(f, data, layer)
	for i, answer := range answers {
		if answer.Code != impl.OK {
			t.Fatalf("answer %d shows nothing: %s", i, told(answer))
		}
	}
	before := told(answers)
	for _, c := range f.Chunks {
		fill(c.Bytes[:cap(c.Bytes)], 0xee)
	}
	clear(f.Chunks[:cap(f.Chunks)])
	clear(f.Wants[:cap(f.Wants)])
	clear(f.Failed[:cap(f.Failed)])
	fill(data, 0xee)
	wipe(layer)
	if told(answers) != before {
		t.Fatal("an answer turned with its arguments")
	}
}

// TestListsOfOneFetchAreTheirOwn writes over one list of an answer, to its capacity, and asks the others, the arguments, and the answer of another call.
func TestListsOfOneFetchAreTheirOwn(t *testing.T) {
	data, layer := []byte("heard"), roomyLayer(layerOf(fileAt("/a", "bytes of two")))
	for _, f := range []impl.Fetch{heardFetch(data), oneListFetch()} {
		arguments := []any{f, data, layer}
		before, want := wholeMemory(arguments), told(answersOfFetch(f, data, layer))
		overs := []func(f *impl.Fetch){
			func(f *impl.Fetch) { clear(f.Wants[:cap(f.Wants)]); f.Wants = nil },
			func(f *impl.Fetch) { clear(f.Failed[:cap(f.Failed)]); f.Failed = nil },
			func(f *impl.Fetch) { clear(f.Chunks[:cap(f.Chunks)]); f.Chunks = nil },
		}
		for i := range f.Chunks {
			overs = append(overs, func(f *impl.Fetch) {
				bytes := f.Chunks[i].Bytes
				fill(bytes[:cap(bytes)], 0xee)
				f.Chunks[i].Bytes = nil
			})
		}
		for at := range answersOfFetch(f, data, layer) {
			for i, over := range overs {
				got := answersOfFetch(f, data, layer)
				if got[at].Code != impl.OK {
					break
				}
				over(&got[at].Fetch)
				left := answersOfFetch(f, data, layer)
				if wholeMemory(arguments) != before || told(left) != want {
					t.Fatalf("answer %d: an argument turned with list %d of it", at, i)
				}
				switch {
				case i == 0:
					left[at].Fetch.Wants = nil
				case i == 1:
					left[at].Fetch.Failed = nil
				case i == 2:
					left[at].Fetch.Chunks = nil
				default:
					left[at].Fetch.Chunks[i-3].Bytes = nil
				}
				if told(got) != told(left) {
					t.Fatalf("answer %d: another list turned with list %d", at, i)
				}
			}
		}
	}
}
