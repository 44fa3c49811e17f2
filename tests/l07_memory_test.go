package tests

import (
	"testing"

	"loop.example/g00299/impl"
)

// memoryLayersOver: layers to be laid over something, some of them with a fault, each of memory of its own.
func memoryLayersOver() [][]impl.Entry {
	layers := [][]impl.Entry{
		nil, {}, layerOf(dirAt("/a")), layerOf(whiteAt("/a")), layerOf(opaqueAt("/a"), fileAt("/a/c", "c")), layerOf(fileAt("/a", "abcdefghijklmnopqrstuvwx")),
		layerOf(dirAt("/a"), fileAt("/a/b", "x"), opaqueAt("/a/c"), whiteAt("/a/c/d"), fileAt("/aa", "abcdefghi")),
		layerOf(dirAt("/a"), fallingFile("/a/b"), fallingFile("/d")), fullLayer(11), fullLayer(12),
		layerOf(impl.Entry{}), layerOf(fileAt("/b", ""), fileAt("/a", "")), layerOf(fileAt("/a/b", "x")), append(fullLayer(12), fileAt("/z", "z")),
	}
	for i, layer := range layers {
		layers[i] = roomyLayer(layer)
	}
	return append(layers, oneListLayer())
}

func memoryTreesUnder() [][]impl.Entry {
	trees := [][]impl.Entry{
		nil, {}, layerOf(dirAt("/a")), layerOf(fileAt("/a", "abcdefghijklmnopqrstuvwx")),
		layerOf(dirAt("/a"), fileAt("/a/b", "x"), dirAt("/a/c"), fileAt("/a/c/d", ""), fileAt("/aa", "abcdefghi")),
		layerOf(dirAt("/a"), fallingFile("/a/b"), fallingFile("/d")), fullTree(12), fullTree(40),
		layerOf(whiteAt("/a")), layerOf(impl.Entry{}), layerOf(fileAt("/a/b", "x")), append(fullTree(40), fileAt("/z", "z")),
	}
	for i, tree := range trees {
		trees[i] = roomyLayer(tree)
	}
	return append(trees, oneListLayer())
}

// roomyLayers: a list of layers with room behind it, where an append would write.
func roomyLayers(layers ...[]impl.Entry) [][]impl.Entry {
	return append(make([][]impl.Entry, 0, len(layers)+3), layers...)
}

func mergeCalls() []oneCall {
	var calls []oneCall
	add := func(name string, call func() any, arguments ...any) {
		calls = append(calls, oneCall{name, call, arguments})
	}
	layers, trees := memoryLayersOver(), memoryTreesUnder()
	for i, layer := range layers {
		for _, tree := range trees {
			add("MergeLayer", func() any { return impl.MergeLayer(tree, layer) }, tree, layer)
		}
		for _, other := range layers {
			add("SquashLayers", func() any { return impl.SquashLayers(layer, other) }, layer, other)
		}
		more := append(layers[i:len(layers):len(layers)], layers...)
		for n := range 6 {
			list := roomyLayers(more[:n]...)
			add("MergeAll", func() any { return impl.MergeAll(list) }, list)
			add("LayersFault", func() any { return impl.LayersFault(list) }, list)
		}
		same := roomyLayers(layer, layer, layer, layer)
		add("MergeAll of one layer", func() any { return impl.MergeAll(same) }, same)
	}
	for _, a := range trees {
		for _, b := range trees {
			add("DiffTrees", func() any { return impl.DiffTrees(a, b) }, a, b)
		}
	}
	add("MergeAll of nothing", func() any { return impl.MergeAll(nil) })
	add("LayersFault of nothing", func() any { return impl.LayersFault(nil) })
	return calls
}

// TestMergeAnswersAreNewMemory also asks that each call comes back: a panic fails the test.
func TestMergeAnswersAreNewMemory(t *testing.T) {
	for _, c := range mergeCalls() {
		askMemory(t, c)
	}
}

func TestMergeAnswersHangOnArgumentsAlone(t *testing.T) {
	askOrder(t, mergeCalls())
}

func TestMergeAnswersAtOnce(t *testing.T) {
	askAtOnce(t, mergeCalls())
}

func pathsIn(lists ...[]impl.Entry) []string {
	var paths []string
	for _, list := range lists {
		for _, e := range list {
			paths = append(paths, e.Path)
		}
	}
	return paths
}

// TestPathsOfMergesShareNoMemory asks by addresses, as a path that is the argument's reads like a copy.
func TestPathsOfMergesShareNoMemory(t *testing.T) {
	layers, trees := memoryLayersOver(), memoryTreesUnder()
	for _, layer := range layers {
		for _, tree := range trees {
			wantOwnPaths(t, "MergeLayer", impl.LayerResult{Layer: impl.MergeLayer(tree, layer).Tree}, pathsIn(tree, layer)...)
		}
		for _, other := range layers {
			wantOwnPaths(t, "SquashLayers", impl.SquashLayers(layer, other), pathsIn(layer, other)...)
			wantOwnPaths(t, "MergeAll", impl.LayerResult{Layer: impl.MergeAll([][]impl.Entry{layer, other}).Tree}, pathsIn(layer, other)...)
		}
		wantOwnPaths(t, "MergeAll of one", impl.LayerResult{Layer: impl.MergeAll([][]impl.Entry{layer}).Tree}, pathsIn(layer)...)
	}
	for _, a := range trees {
		for _, b := range trees {
			wantOwnPaths(t, "DiffTrees", impl.DiffTrees(a, b), pathsIn(a, b)...)
		}
	}
}

func wipe(list []impl.Entry) {
	for i := range list {
		clear(list[i].Chunks)
		list[i] = impl.Entry{}
	}
}

// TestMergesOutliveTheArguments writes over all that was handed in, and asks the answers again.
func TestMergesOutliveTheArguments(t *testing.T) {
	layers, trees := len(memoryLayersOver()), len(memoryTreesUnder())
	for i := range layers {
		for j := range trees {
			layer, tree, other := memoryLayersOver()[i], memoryTreesUnder()[j], memoryLayersOver()[j]
			list := roomyLayers(layer, other)
			answers := []any{
				impl.MergeLayer(tree, layer), impl.MergeLayer(nil, layer), impl.MergeLayer(tree, nil), impl.MergeAll(list), impl.MergeAll(list[:1]),
				impl.SquashLayers(layer, other), impl.SquashLayers(nil, layer), impl.SquashLayers(layer, nil),
				impl.DiffTrees(nil, tree), impl.DiffTrees(tree, nil), impl.DiffTrees(tree, layer),
			}
			before := told(answers)
			wipe(layer)
			wipe(tree)
			wipe(other)
			clear(list)
			if told(answers) != before {
				t.Fatalf("layer %d and tree %d: an answer turned with its arguments", i, j)
			}
		}
	}
}

// TestChunksOfOneMergeAreTheirOwn writes over the Chunks of each entry of an answer, to their capacity, and asks the others.
func TestChunksOfOneMergeAreTheirOwn(t *testing.T) {
	list := oneListLayer()
	for _, answer := range []func() []impl.Entry{
		func() []impl.Entry { return impl.MergeLayer(list, nil).Tree },
		func() []impl.Entry { return impl.MergeLayer(nil, list).Tree },
		func() []impl.Entry { return impl.MergeLayer(list, list).Tree },
		func() []impl.Entry { return impl.MergeAll([][]impl.Entry{list, list}).Tree },
		func() []impl.Entry { return impl.SquashLayers(list, nil).Layer },
		func() []impl.Entry { return impl.SquashLayers(nil, list).Layer },
		func() []impl.Entry { return impl.SquashLayers(list, layerOf(whiteAt("/d"))).Layer },
		func() []impl.Entry { return impl.DiffTrees(nil, list).Layer },
		func() []impl.Entry { return impl.DiffTrees(layerOf(fileAt("/e", "")), list).Layer },
	} {
		for at := range answer() {
			got, want := answer(), answer()
			whole := got[at].Chunks[:cap(got[at].Chunks)]
			for i := range whole {
				whole[i] = -1
			}
			got[at], want[at] = impl.Entry{}, impl.Entry{}
			if told(got) != told(want) || told(list) != told(oneListLayer()) {
				t.Fatalf("the Chunks of entry %d are not its own", at)
			}
		}
	}
}
