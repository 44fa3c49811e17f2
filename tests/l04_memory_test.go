package tests

import (
	"strings"
	"testing"

	"loop.example/g00299/impl"
)

// roomyEntry: the same entry with a path of its own memory, and room behind its Chunks, where an append would write.
func roomyEntry(e impl.Entry) impl.Entry {
	e.Path = strings.Clone(e.Path)
	e.Chunks = append(make([]int64, 0, len(e.Chunks)+3), e.Chunks...)
	return e
}

func roomyLayer(layer []impl.Entry) []impl.Entry {
	out := make([]impl.Entry, 0, len(layer)+4)
	for _, e := range layer {
		out = append(out, roomyEntry(e))
	}
	return out
}

// oneListLayer: files whose Chunks are one list, which an answer may not go on sharing among its entries.
func oneListLayer() []impl.Entry {
	chunks := []int64{7, 8, 9, 10}
	return layerOf(
		impl.Entry{Path: "/a", Kind: 1, Size: 24, Chunks: chunks[:3]}, impl.Entry{Path: "/b", Kind: 1, Size: 24, Chunks: chunks[:3]},
		impl.Entry{Path: "/c", Kind: 1, Size: 9, Chunks: chunks[1:3]}, impl.Entry{Path: "/d", Kind: 2, Chunks: chunks[:0]},
	)
}

// fallingFile: Chunks that a sort would turn.
func fallingFile(path string) impl.Entry {
	return impl.Entry{Path: path, Kind: 1, Size: 24, Chunks: []int64{9, 8, 7}}
}

func memoryLayers() [][]impl.Entry {
	layers := [][]impl.Entry{
		nil, {}, layerOf(dirAt("/a")), layerOf(fileAt("/a", "")), layerOf(fileAt("/a", "abcdefghijklmnopqrstuvwx")),
		layerOf(dirAt("/a"), fileAt("/a/b", "x"), opaqueAt("/a/c"), whiteAt("/a/c/d"), fileAt("/aa", "abcdefghi")),
		layerOf(dirAt("/a"), fallingFile("/a/b"), fallingFile("/d")), fullLayer(11), fullLayer(12),
	}
	for _, f := range faultyLayers() {
		layers = append(layers, f.layer)
	}
	for i, layer := range layers {
		layers[i] = roomyLayer(layer)
	}
	return append(layers, oneListLayer())
}

func memoryEntries() []impl.Entry {
	entries := layerOf(impl.Entry{Path: "/a", Kind: 1, Size: 25}, impl.Entry{}, fileAt("/a", "abcdefghijklmnopqrstuvwx"), fileAt("/z/z", "x"), fallingFile("/a"), fallingFile("/zz"))
	for _, path := range []string{"/a", "/a/b", "/a/c", "/d"} {
		entries = append(entries, kindsAt(path)...)
	}
	return roomyLayer(entries)
}

func layerCalls() []oneCall {
	var calls []oneCall
	add := func(name string, call func() any, arguments ...any) {
		calls = append(calls, oneCall{name, call, arguments})
	}
	entries, paths := memoryEntries(), []string{"", "/", "/a", "/a/b", "/a/c", "/aa", "/d", "/zz", "/abcde", "/a/b/c/d"}
	layers := memoryLayers()
	for i, layer := range layers {
		add("LayerFault", func() any { return impl.LayerFault(layer) }, layer)
		add("ChunksIn", func() any { return impl.ChunksIn(layer) }, layer)
		for _, other := range [][]impl.Entry{layer, layers[i/2], nil} {
			add("SameLayers", func() any { return impl.SameLayers(layer, other) }, layer, other)
		}
		for _, path := range paths {
			add("EntryAt", func() any { return impl.EntryAt(layer, path) }, layer)
			add("DropBelow", func() any { return impl.DropBelow(layer, path) }, layer)
		}
		for _, e := range append(entries, layer[:min(3, len(layer))]...) {
			add("PutEntry", func() any { return impl.PutEntry(layer, e) }, layer, e)
		}
	}
	for _, f := range faultyEntries() {
		entries = append(entries, roomyEntry(f.e))
	}
	for _, e := range entries {
		add("EntryFault", func() any { return impl.EntryFault(e) }, e)
	}
	for _, path := range paths {
		for _, data := range chunkDatas() {
			add("FileEntry", func() any { return impl.FileEntry(path, data) }, data)
		}
	}
	return calls
}

// TestLayerAnswersAreNewMemory also asks that each call comes back: a panic fails the test.
func TestLayerAnswersAreNewMemory(t *testing.T) {
	for _, c := range layerCalls() {
		askMemory(t, c)
	}
}

func TestLayerAnswersHangOnArgumentsAlone(t *testing.T) {
	askOrder(t, layerCalls())
}

func TestLayerAnswersAtOnce(t *testing.T) {
	askAtOnce(t, layerCalls())
}

// wantOwnPaths asks by addresses, as a text that is the argument's reads like a copy.
func wantOwnPaths(t *testing.T, name string, got impl.LayerResult, arguments ...string) {
	t.Helper()
	var spans []span
	for _, text := range arguments {
		spans = append(spans, textSpan("argument "+text, text))
	}
	for _, e := range got.Layer {
		own := textSpan("answer "+e.Path, e.Path)
		for _, other := range spans {
			if own.start < other.end && other.start < own.end {
				t.Fatalf("%s: %s and %s share memory", name, own.name, other.name)
			}
		}
		spans = append(spans, own)
	}
}

func TestPathsOfLayersShareNoMemory(t *testing.T) {
	for _, layer := range memoryLayers() {
		var paths []string
		for _, e := range layer {
			paths = append(paths, e.Path)
		}
		for _, e := range append(memoryEntries(), layer...) {
			with := append(paths[:len(paths):len(paths)], e.Path)
			wantOwnPaths(t, "PutEntry", impl.PutEntry(layer, e), with...)
			wantOwnPaths(t, "EntryAt", impl.EntryAt(layer, e.Path), with...)
			wantOwnPaths(t, "DropBelow", impl.DropBelow(layer, e.Path), with...)
			wantOwnPaths(t, "FileEntry", impl.FileEntry(e.Path, nil), e.Path)
		}
	}
}

// TestLayersOutliveTheArguments writes over all that was handed in, and asks the answers again.
func TestLayersOutliveTheArguments(t *testing.T) {
	for n := 1; n <= 12; n++ {
		layer, e := roomyLayer(fullLayer(n)), roomyEntry(fileAt("/a/b", "bytes of three chunks"))
		data := []byte("abcdefghijklmnopqrstuvwx")
		answers := []any{
			impl.PutEntry(layer, e), impl.PutEntry(layer, layer[0]), impl.EntryAt(layer, "/a"), impl.EntryAt(layer, layer[n-1].Path),
			impl.DropBelow(layer, "/zz"), impl.DropBelow(layer, "/a/c"), impl.ChunksIn(layer), impl.FileEntry("/a", data),
		}
		before := told(answers)
		fill(data, 0xee)
		clear(e.Chunks)
		for i := range layer {
			clear(layer[i].Chunks)
			layer[i] = impl.Entry{}
		}
		if told(answers) != before {
			t.Fatalf("%d entries: an answer turned with its arguments", n)
		}
	}
}

// TestChunksOfOneAnswerAreTheirOwn writes over the Chunks of each entry of an answer, to their capacity, and asks the others.
func TestChunksOfOneAnswerAreTheirOwn(t *testing.T) {
	layer := oneListLayer()
	for _, answer := range []func() []impl.Entry{
		func() []impl.Entry { return impl.DropBelow(layer, "/z").Layer },
		func() []impl.Entry { return impl.PutEntry(layer, layer[0]).Layer },
		func() []impl.Entry { return impl.PutEntry(layer, dirAt("/z")).Layer },
	} {
		for at := range answer() {
			got, want := answer(), answer()
			whole := got[at].Chunks[:cap(got[at].Chunks)]
			for i := range whole {
				whole[i] = -1
			}
			got[at], want[at] = impl.Entry{}, impl.Entry{}
			if told(got) != told(want) || told(layer) != told(oneListLayer()) {
				t.Fatalf("the Chunks of entry %d are not its own", at)
			}
		}
	}
}
