package tests

import (
	"strings"
	"testing"

	"loop.example/g00299/impl"
)

// memoryTrees: trees with and without a fault, each of memory of its own, and one whose files have one list of Chunks.
func memoryTrees() [][]impl.Entry {
	trees := [][]impl.Entry{
		nil, {}, layerOf(dirAt("/a")), layerOf(fileAt("/a", "")), layerOf(fileAt("/a", "abcdefghijklmnopqrstuvwx")),
		layerOf(dirAt("/a"), fileAt("/a/b", "x"), dirAt("/a/c"), fileAt("/a/c/d", ""), fileAt("/aa", "abcdefghi")),
		layerOf(dirAt("/a"), fallingFile("/a/b"), fallingFile("/d")), fullTree(39), fullTree(40),
	}
	for _, f := range faultyTrees() {
		trees = append(trees, f.layer)
	}
	for i, tree := range trees {
		trees[i] = roomyLayer(tree)
	}
	return append(trees, oneListLayer())
}

func memoryPaths() []string {
	paths := []string{"", "/", "/a", "/a/b", "/a/c", "/a/c/d", "/a/c/e", "/aa", "/d", "/zz", "/zz/z", "/d/e", "/abcde", "/a/b/c/d"}
	for i, path := range paths {
		paths[i] = strings.Clone(path)
	}
	return paths
}

func treeCalls() []oneCall {
	var calls []oneCall
	add := func(name string, call func() any, arguments ...any) {
		calls = append(calls, oneCall{name, call, arguments})
	}
	for _, tree := range memoryTrees() {
		add("TreeFault", func() any { return impl.TreeFault(tree) }, tree)
		add("TreeText", func() any { return impl.TreeText(tree) }, tree)
		paths := memoryPaths()
		if treeFaultByHand(tree) != impl.OK {
			paths = paths[1:3]
		}
		for i, path := range paths {
			add("StatTree "+path, func() any { return impl.StatTree(tree, path) }, tree)
			add("ListTree "+path, func() any { return impl.ListTree(tree, path) }, tree)
			add("MakeDir "+path, func() any { return impl.MakeDir(tree, path) }, tree)
			add("RemoveTree "+path, func() any { return impl.RemoveTree(tree, path) }, tree)
			datas := chunkDatas()
			for _, data := range [][]byte{datas[i%len(datas)], datas[(i+5)%len(datas)]} {
				add("WriteTree "+path, func() any { return impl.WriteTree(tree, path, data) }, tree, data)
			}
		}
	}
	return calls
}

// TestTreeAnswersAreNewMemory also asks that each call comes back: a panic fails the test.
func TestTreeAnswersAreNewMemory(t *testing.T) {
	for _, c := range treeCalls() {
		askMemory(t, c)
	}
}

func TestTreeAnswersHangOnArgumentsAlone(t *testing.T) {
	askOrder(t, treeCalls())
}

func TestTreeAnswersAtOnce(t *testing.T) {
	askAtOnce(t, treeCalls())
}

// TestTextsOfTreesShareNoMemory asks by addresses, as a path or a name that is the argument's reads like a copy.
func TestTextsOfTreesShareNoMemory(t *testing.T) {
	for _, tree := range [][]impl.Entry{roomyLayer(fullTree(12)), roomyLayer(fullTree(40)), roomyLayer(layerOf(fileAt("/a", "x"))), nil} {
		var texts []string
		for _, e := range tree {
			texts = append(texts, e.Path)
		}
		for _, path := range append(memoryPaths(), texts...) {
			with := append(texts[:len(texts):len(texts)], path)
			wantOwnPaths(t, "StatTree "+path, impl.StatTree(tree, path), with...)
			for name, got := range map[string]impl.TreeResult{
				"WriteTree " + path: impl.WriteTree(tree, path, []byte("x")), "MakeDir " + path: impl.MakeDir(tree, path), "RemoveTree " + path: impl.RemoveTree(tree, path),
			} {
				wantOwnPaths(t, name, impl.LayerResult{Layer: got.Tree}, with...)
			}
			for _, argument := range with {
				wantOwnTexts(t, argument, impl.ListTree(tree, path).Names...)
			}
		}
		for _, argument := range texts {
			wantOwnTexts(t, argument, impl.TreeText(tree).Text)
		}
	}
}

// TestTreesOutliveTheArguments writes over all that was handed in, and asks the answers again.
func TestTreesOutliveTheArguments(t *testing.T) {
	for _, n := range []int{1, 2, 3, 7, 39, 40} {
		tree, data := roomyLayer(fullTree(n)), []byte("abcdefghijklmnopqrstuvwx")
		answers := []any{
			impl.WriteTree(tree, "/a/e", data), impl.WriteTree(tree, "/c", data), impl.WriteTree(tree, "/z/z", data), impl.WriteTree(tree, "/a", data),
			impl.MakeDir(tree, "/a/a"), impl.MakeDir(tree, "/z"), impl.MakeDir(tree, "/a"), impl.MakeDir(tree, "/z/z"),
			impl.RemoveTree(tree, "/a"), impl.RemoveTree(tree, "/zz"), impl.RemoveTree(tree, tree[n-1].Path),
			impl.StatTree(tree, tree[n-1].Path), impl.ListTree(tree, "/"), impl.ListTree(tree, "/a"), impl.TreeText(tree),
		}
		before := told(answers)
		fill(data, 0xee)
		for i := range tree {
			clear(tree[i].Chunks)
			tree[i] = impl.Entry{}
		}
		if told(answers) != before {
			t.Fatalf("%d entries: an answer turned with its arguments", n)
		}
	}
}

// TestChunksOfOneTreeAreTheirOwn writes over the Chunks of each entry of an answer, to their capacity, and asks the others.
func TestChunksOfOneTreeAreTheirOwn(t *testing.T) {
	tree := oneListLayer()
	for _, answer := range []func() []impl.Entry{
		func() []impl.Entry { return impl.WriteTree(tree, "/e", []byte("abcdefghijklmnopqrstuvwx")).Tree },
		func() []impl.Entry { return impl.WriteTree(tree, "/a", []byte("abcdefghijklmnopqrstuvwx")).Tree },
		func() []impl.Entry { return impl.WriteTree(tree, "/d", nil).Tree },
		func() []impl.Entry { return impl.MakeDir(tree, "/e").Tree },
		func() []impl.Entry { return impl.MakeDir(tree, "/a").Tree },
		func() []impl.Entry { return impl.RemoveTree(tree, "/d").Tree },
		func() []impl.Entry { return impl.RemoveTree(tree, "/e").Tree },
	} {
		for at := range answer() {
			got, want := answer(), answer()
			whole := got[at].Chunks[:cap(got[at].Chunks)]
			for i := range whole {
				whole[i] = -1
			}
			got[at], want[at] = impl.Entry{}, impl.Entry{}
			if told(got) != told(want) || told(tree) != told(oneListLayer()) {
				t.Fatalf("the Chunks of entry %d are not its own", at)
			}
		}
	}
}
