package tests

import (
	"cmp"
	"fmt"
	"path"
	"slices"
	"strings"
	"testing"

	"loop.example/g00299/impl"
)

// hides: a layer says of something above p that what is below it is gone.
func hides(layer map[string]impl.Entry, p string) bool {
	for up := path.Dir(p); up != "/"; up = path.Dir(up) {
		if e, there := layer[up]; there && e.Kind != 2 {
			return true
		}
	}
	return false
}

func manyByHand(entries map[string]impl.Entry, most int) int64 {
	if len(entries) > most {
		return impl.ErrMany
	}
	return impl.OK
}

// mergeByHand asks path by path who says what is there, and takes no step behind another one.
func mergeByHand(tree []impl.Entry, layer []impl.Entry) impl.TreeResult {
	if code := cmp.Or(treeFaultByHand(tree), layerFaultByHand(layer)); code != impl.OK {
		return impl.TreeResult{Code: code}
	}
	high, out := layerByPath(layer), map[string]impl.Entry{}
	for _, e := range tree {
		if !hides(high, e.Path) {
			out[e.Path] = e
		}
	}
	for p, e := range high {
		switch e.Kind {
		case 1:
			out[p] = e
		case 2, 4:
			out[p] = dirAt(p)
		case 3:
			delete(out, p)
		}
	}
	if code := manyByHand(out, 40); code != impl.OK {
		return impl.TreeResult{Code: code}
	}
	return impl.TreeResult{Tree: sortedLayer(out)}
}

func layersFaultByHand(layers [][]impl.Entry) int64 {
	if len(layers) > 4 {
		return impl.ErrMany
	}
	var code int64
	for _, layer := range layers {
		code = cmp.Or(code, layerFaultByHand(layer))
	}
	return code
}

func mergeAllByHand(layers [][]impl.Entry) impl.TreeResult {
	if code := layersFaultByHand(layers); code != impl.OK {
		return impl.TreeResult{Code: code}
	}
	var out impl.TreeResult
	for _, layer := range layers {
		if out.Code == impl.OK {
			out = mergeByHand(out.Tree, layer)
		}
	}
	return out
}

func squashByHand(low []impl.Entry, high []impl.Entry) impl.LayerResult {
	if code := cmp.Or(layerFaultByHand(low), layerFaultByHand(high)); code != impl.OK {
		return impl.LayerResult{Code: code}
	}
	above, out := layerByPath(high), map[string]impl.Entry{}
	for _, e := range low {
		if !hides(above, e.Path) {
			out[e.Path] = e
		}
	}
	for p, e := range above {
		below, there := out[p]
		switch {
		case e.Kind != 2 || !there:
			out[p] = e
		case below.Kind == 1 || below.Kind == 3:
			out[p] = opaqueAt(p)
		}
	}
	if code := manyByHand(out, 12); code != impl.OK {
		return impl.LayerResult{Code: code}
	}
	return impl.LayerResult{Layer: sortedLayer(out)}
}

func diffByHand(a []impl.Entry, b []impl.Entry) impl.LayerResult {
	if code := cmp.Or(treeFaultByHand(a), treeFaultByHand(b)); code != impl.OK {
		return impl.LayerResult{Code: code}
	}
	from, to, out := layerByPath(a), layerByPath(b), map[string]impl.Entry{}
	for p := range from {
		if _, there := to[p]; !there && parentIsThere(b, p) {
			out[p] = whiteAt(p)
		}
	}
	for p, e := range to {
		if old, there := from[p]; !there || told(old) != told(e) {
			out[p] = e
		}
	}
	for p := range out {
		for up := path.Dir(p); up != "/"; up = path.Dir(up) {
			if dirsOf(b)[up] {
				out[up] = dirAt(up)
			}
		}
	}
	if code := manyByHand(out, 12); code != impl.OK {
		return impl.LayerResult{Code: code}
	}
	return impl.LayerResult{Layer: sortedLayer(out)}
}

func sameEntries(a []impl.Entry, b []impl.Entry) bool {
	return slices.EqualFunc(a, b, func(x, y impl.Entry) bool {
		return x.Path == y.Path && x.Kind == y.Kind && x.Size == y.Size && slices.Equal(x.Chunks, y.Chunks)
	})
}

// wantOneTree and wantOneLayer compare ahead of writing anything out, as they are asked very often.
func wantOneTree(t *testing.T, name func() string, got impl.TreeResult, want impl.TreeResult) {
	t.Helper()
	if got.Code != want.Code || got.Reply != want.Reply || !sameEntries(got.Tree, want.Tree) {
		t.Fatalf("%s: %s, not %s", name(), told(got), told(want))
	}
}

func wantOneLayer(t *testing.T, name func() string, got impl.LayerResult, want impl.LayerResult) {
	t.Helper()
	if got.Code != want.Code || !sameEntries(got.Layer, want.Layer) {
		t.Fatalf("%s: %s, not %s", name(), told(got), told(want))
	}
}

// withOtherBytes: the same paths and kinds, with files that none of kindsAt is the same as.
func withOtherBytes(entries []impl.Entry) []impl.Entry {
	out := slices.Clone(entries)
	for i, e := range out {
		if e.Kind == 1 {
			out[i] = fileAt(e.Path, "other bytes")
		}
	}
	return out
}

// treesToMerge: the small trees, and long ones behind them.
func treesToMerge() [][]impl.Entry {
	trees := rightTrees()
	for i, tree := range trees {
		trees[i] = withOtherBytes(tree)
	}
	return append(trees, fullTree(7), fullTree(12), fullTree(39), fullTree(40))
}

// wantMerge asks the model, and what the promise says of each path.
func wantMerge(t *testing.T, tree []impl.Entry, layer []impl.Entry) {
	t.Helper()
	name := func() string { return "MergeLayer of " + told(layer) + " over " + told(tree) }
	got := impl.MergeLayer(tree, layer)
	wantOneTree(t, name, got, mergeByHand(tree, layer))
	if got.Code != impl.OK {
		return
	}
	if code := impl.TreeFault(got.Tree); code != impl.OK {
		t.Fatalf("%s leaves the fault %d", name(), code)
	}
	behind, high := layerByPath(got.Tree), layerByPath(layer)
	for p, said := range high {
		if e, there := behind[p]; there == (said.Kind == 3) || there && (e.Kind == 1) != (said.Kind == 1) {
			t.Fatalf("%s: %s is not as the layer says", name(), p)
		}
	}
	for _, e := range tree {
		_, spoken := high[e.Path]
		if now, there := behind[e.Path]; !spoken && there == hides(high, e.Path) || !spoken && there && !sameEntries(layerOf(now), layerOf(e)) {
			t.Fatalf("%s: %s does not stay, or is still there", name(), e.Path)
		}
	}
	for p := range behind {
		if _, was := layerByPath(tree)[p]; !was && high[p].Path != p {
			t.Fatalf("%s: %s comes from nowhere", name(), p)
		}
	}
}

func TestMergeLayerKnown(t *testing.T) {
	file, other := fileAt("/a", "new"), fileAt("/a", "old")
	below := layerOf(dirAt("/a"), dirAt("/a/b"), fileAt("/a/b/c", "x"), fileAt("/a/d", ""))
	known := []struct {
		name        string
		tree, layer []impl.Entry
		answer      []impl.Entry
	}{
		{"nothing over nothing", nil, nil, nil},
		{"nothing over a file", layerOf(other), nil, layerOf(other)},
		{"nothing over a directory that has something", below, nil, below},
		{"a file over nothing", nil, layerOf(file), layerOf(file)},
		{"a file over a file", layerOf(other), layerOf(file), layerOf(file)},
		{"a file over the same file", layerOf(file), layerOf(file), layerOf(file)},
		{"a file over a directory that has nothing", layerOf(dirAt("/a")), layerOf(file), layerOf(file)},
		{"a file over a directory that has something", below, layerOf(file), layerOf(file)},
		{"a directory over nothing", nil, layerOf(dirAt("/a")), layerOf(dirAt("/a"))},
		{"a directory over a file", layerOf(other), layerOf(dirAt("/a")), layerOf(dirAt("/a"))},
		{"a directory over a directory that has nothing", layerOf(dirAt("/a")), layerOf(dirAt("/a")), layerOf(dirAt("/a"))},
		{"a directory over a directory that has something", below, layerOf(dirAt("/a")), below},
		{"a white over nothing", nil, layerOf(whiteAt("/a")), nil},
		{"a white of another path", layerOf(other), layerOf(whiteAt("/b")), layerOf(other)},
		{"a white over a file", layerOf(other), layerOf(whiteAt("/a")), nil},
		{"a white over a directory that has nothing", layerOf(dirAt("/a")), layerOf(whiteAt("/a")), nil},
		{"a white over a directory that has something", below, layerOf(whiteAt("/a")), nil},
		{"an opaque one over nothing", nil, layerOf(opaqueAt("/a")), layerOf(dirAt("/a"))},
		{"an opaque one over a file", layerOf(other), layerOf(opaqueAt("/a")), layerOf(dirAt("/a"))},
		{"an opaque one over a directory that has nothing", layerOf(dirAt("/a")), layerOf(opaqueAt("/a")), layerOf(dirAt("/a"))},
		{"an opaque one over a directory that has something", below, layerOf(opaqueAt("/a")), layerOf(dirAt("/a"))},
		{"a directory with a file, over a file", layerOf(other), layerOf(dirAt("/a"), fileAt("/a/z", "z")), layerOf(dirAt("/a"), fileAt("/a/z", "z"))},
		{"an opaque one with what was there", below, layerOf(opaqueAt("/a"), fileAt("/a/d", "")), layerOf(dirAt("/a"), fileAt("/a/d", ""))},
		{"an opaque one with a white", below, layerOf(opaqueAt("/a"), whiteAt("/a/b")), layerOf(dirAt("/a"))},
		{"an opaque one with a directory that was there", below, layerOf(opaqueAt("/a"), dirAt("/a/b")), layerOf(dirAt("/a"), dirAt("/a/b"))},
		{"a white below", below, layerOf(dirAt("/a"), whiteAt("/a/b")), layerOf(dirAt("/a"), fileAt("/a/d", ""))},
		{"a white of no path below", below, layerOf(dirAt("/a"), whiteAt("/a/z")), below},
		{"a file over a directory below", below, layerOf(dirAt("/a"), fileAt("/a/b", "b")), layerOf(dirAt("/a"), fileAt("/a/b", "b"), fileAt("/a/d", ""))},
		{"a directory over a file below", below, layerOf(dirAt("/a"), dirAt("/a/d")), slices.Concat(below[:3], layerOf(dirAt("/a/d")))},
		{"an opaque one below", below, layerOf(dirAt("/a"), opaqueAt("/a/b")), layerOf(dirAt("/a"), dirAt("/a/b"), fileAt("/a/d", ""))},
		{"three names deep", below, layerOf(dirAt("/a"), dirAt("/a/b"), whiteAt("/a/b/c")), layerOf(dirAt("/a"), dirAt("/a/b"), fileAt("/a/d", ""))},
		{"names that begin alike", layerOf(dirAt("/a"), fileAt("/a/b", ""), fileAt("/a/bb", ""), dirAt("/aa"), fileAt("/aa/b", "")), layerOf(whiteAt("/a")), layerOf(dirAt("/aa"), fileAt("/aa/b", ""))},
		{"names that begin alike below", layerOf(dirAt("/a"), dirAt("/a/b"), fileAt("/a/b/c", ""), dirAt("/a/bb"), fileAt("/a/bb/c", "")), layerOf(dirAt("/a"), fileAt("/a/b", "")), layerOf(dirAt("/a"), fileAt("/a/b", ""), dirAt("/a/bb"), fileAt("/a/bb/c", ""))},
	}
	for _, k := range known {
		wantAnswer(t, k.name, impl.MergeLayer(k.tree, k.layer), impl.TreeResult{Tree: k.answer})
		wantMerge(t, k.tree, k.layer)
		beside := func(list []impl.Entry) []impl.Entry { return append(list[:len(list):len(list)], fileAt("/zz", "zz")) }
		wantAnswer(t, k.name+", a file beside it", impl.MergeLayer(beside(k.tree), k.layer), impl.TreeResult{Tree: beside(k.answer)})
		wantAnswer(t, k.name+", a file beside it above", impl.MergeLayer(k.tree, beside(k.layer)), impl.TreeResult{Tree: beside(k.answer)})
	}
}

// TestKindsAtEachDepth: each kind over nothing, over a file and over a directory, at the top and below directories.
func TestKindsAtEachDepth(t *testing.T) {
	for _, home := range [][]impl.Entry{nil, layerOf(dirAt("/h")), layerOf(dirAt("/h"), dirAt("/h/i"))} {
		above := ""
		if len(home) > 0 {
			above = home[len(home)-1].Path
		}
		at := above + "/m"
		beside := fileAt(above+"/mm", "beside")
		overs := [][]impl.Entry{nil, layerOf(fileAt(at, "old")), layerOf(dirAt(at))}
		if strings.Count(at, "/") < 3 {
			overs = append(overs, layerOf(dirAt(at), dirAt(at+"/n"), fileAt(at+"/o", "o")))
		}
		for _, over := range overs {
			for _, e := range kindsAt(at) {
				want := map[int64][]impl.Entry{1: layerOf(e), 2: layerOf(dirAt(at)), 4: layerOf(dirAt(at))}[e.Kind]
				if e.Kind == 2 && len(over) > 1 {
					want = over
				}
				tree, layer := slices.Concat(home, over, layerOf(beside)), slices.Concat(home, layerOf(e))
				wantAnswer(t, told(e)+" over "+told(over), impl.MergeLayer(tree, layer), impl.TreeResult{Tree: slices.Concat(home, want, layerOf(beside))})
				wantMerge(t, tree, layer)
			}
		}
	}
}

func TestMergeLayerOfAllSmall(t *testing.T) {
	trees, layers := treesToMerge(), append(rightLayers(), []impl.Entry{}, fullLayer(11), fullLayer(12))
	for i, tree := range trees {
		for j := i % 3; j < len(layers); j += 3 {
			wantMerge(t, tree, layers[j])
		}
	}
}

// TestMergeLayerOfMaxItems: what counts is how many there are in the end.
func TestMergeLayerOfMaxItems(t *testing.T) {
	full := fullTree(40)
	many := impl.TreeResult{Code: impl.ErrMany}
	for _, path := range []string{"/aa", "/c", "/zzzz"} {
		for _, e := range kindsAt(path) {
			want := many
			if e.Kind == 3 {
				want = impl.TreeResult{Tree: full}
			}
			wantAnswer(t, "one more than MaxItems: "+told(e), impl.MergeLayer(full, layerOf(e)), want)
			wantMerge(t, full[:39], layerOf(e))
			if e.Kind != 3 && len(impl.MergeLayer(full[:39], layerOf(e)).Tree) != 40 {
				t.Errorf("%s is not taken as the last one", told(e))
			}
		}
	}
	// One more only on the way: what is new stands ahead of what goes.
	wantAnswer(t, "more on the way, one gone", impl.MergeLayer(full, layerOf(fileAt("/aa", "new"), whiteAt("/ab"))),
		impl.TreeResult{Tree: slices.Concat(full[:5], layerOf(fileAt("/aa", "new")), full[6:])})
	wantAnswer(t, "more on the way, one gone below", impl.MergeLayer(full, layerOf(dirAt("/a"), dirAt("/a/a"), dirAt("/a/b"), whiteAt("/a/b/c"))),
		impl.TreeResult{Tree: slices.Concat(full[:1], layerOf(dirAt("/a/a")), full[1:2], full[3:])})
	wantAnswer(t, "more on the way, all below gone", impl.MergeLayer(full, layerOf(fileAt("/aa", ""), dirAt("/ac"), fileAt("/ad", ""), fileAt("/b", "b"))),
		impl.TreeResult{Tree: slices.Concat(full[:5], layerOf(fileAt("/aa", "")), full[5:6], layerOf(dirAt("/ac"), fileAt("/ad", ""), fileAt("/b", "b")))})
	wantAnswer(t, "more on the way, an opaque one behind", impl.MergeLayer(full, layerOf(fileAt("/aa", ""), opaqueAt("/b"))),
		impl.TreeResult{Tree: slices.Concat(full[:5], layerOf(fileAt("/aa", "")), full[5:7])})
	wantAnswer(t, "two more, one gone", impl.MergeLayer(full, layerOf(fileAt("/aa", ""), whiteAt("/ab"), fileAt("/c", ""))), many)
	wantAnswer(t, "one gone, two more", impl.MergeLayer(full, layerOf(whiteAt("/ab"), fileAt("/c", ""), fileAt("/d", ""))), many)
	wantAnswer(t, "one gone, one more", impl.MergeLayer(full, layerOf(whiteAt("/ab"), fileAt("/c", ""))), impl.TreeResult{Tree: slices.Concat(full[:5], full[6:], layerOf(fileAt("/c", "")))})
	for n := range 41 {
		for _, layer := range [][]impl.Entry{fullLayer(12), fullLayer(5), fullLayer(1), layerOf(opaqueAt("/a"), dirAt("/a/a"), whiteAt("/b"), fileAt("/c", "c")), layerOf(fileAt("/a", ""), fileAt("/c", ""))} {
			wantMerge(t, fullTree(n), layer)
		}
	}
}

// wantSquash asks the model, and that the one layer does what the two do one behind the other.
func wantSquash(t *testing.T, low []impl.Entry, high []impl.Entry, trees ...[]impl.Entry) {
	t.Helper()
	name := func() string { return "SquashLayers of " + told(low) + " and " + told(high) }
	got := impl.SquashLayers(low, high)
	wantOneLayer(t, name, got, squashByHand(low, high))
	if got.Code != impl.OK {
		return
	}
	if code := impl.LayerFault(got.Layer); code != impl.OK {
		t.Fatalf("%s leaves the fault %d", name(), code)
	}
	for _, tree := range trees {
		first := impl.MergeLayer(tree, low)
		if first.Code != impl.OK {
			continue
		}
		if want := impl.MergeLayer(first.Tree, high); want.Code == impl.OK {
			wantOneTree(t, func() string { return name() + " over " + told(tree) }, impl.MergeLayer(tree, got.Layer), want)
		}
	}
}

func TestSquashLayersKnown(t *testing.T) {
	below := layerOf(dirAt("/a"), opaqueAt("/a/b"), fileAt("/a/b/c", "x"), whiteAt("/a/d"))
	opaque := slices.Concat(layerOf(opaqueAt("/a")), below[1:])
	file, other := fileAt("/a", "high"), fileAt("/a", "low")
	known := []struct {
		name      string
		low, high []impl.Entry
		answer    []impl.Entry
	}{
		{"nothing and nothing", nil, nil, nil},
		{"nothing above", below, nil, below},
		{"nothing below", nil, below, below},
		{"the same twice", below, below, below},
		{"a file over a file", layerOf(other), layerOf(file), layerOf(file)},
		{"a file over a white", layerOf(whiteAt("/a")), layerOf(file), layerOf(file)},
		{"a file over a directory", below, layerOf(file), layerOf(file)},
		{"a file over an opaque one", opaque, layerOf(file), layerOf(file)},
		{"a white over a file", layerOf(other), layerOf(whiteAt("/a")), layerOf(whiteAt("/a"))},
		{"a white over a white", layerOf(whiteAt("/a")), layerOf(whiteAt("/a")), layerOf(whiteAt("/a"))},
		{"a white over nothing", nil, layerOf(whiteAt("/a")), layerOf(whiteAt("/a"))},
		{"a white over a directory", below, layerOf(whiteAt("/a")), layerOf(whiteAt("/a"))},
		{"a white over an opaque one", opaque, layerOf(whiteAt("/a")), layerOf(whiteAt("/a"))},
		{"a directory over a directory", below, layerOf(dirAt("/a")), below},
		{"a directory over an opaque one", opaque, layerOf(dirAt("/a")), opaque},
		{"a directory over a white", layerOf(whiteAt("/a")), layerOf(dirAt("/a")), layerOf(opaqueAt("/a"))},
		{"a directory over a file", layerOf(other), layerOf(dirAt("/a")), layerOf(opaqueAt("/a"))},
		{"a directory over nothing", nil, layerOf(dirAt("/a")), layerOf(dirAt("/a"))},
		{"a directory over nothing, a file beside", layerOf(fileAt("/aa", "")), layerOf(dirAt("/a")), layerOf(dirAt("/a"), fileAt("/aa", ""))},
		{"an opaque one over a directory", below, layerOf(opaqueAt("/a")), layerOf(opaqueAt("/a"))},
		{"an opaque one over an opaque one", opaque, layerOf(opaqueAt("/a")), layerOf(opaqueAt("/a"))},
		{"an opaque one over a white", layerOf(whiteAt("/a")), layerOf(opaqueAt("/a")), layerOf(opaqueAt("/a"))},
		{"an opaque one over a file", layerOf(other), layerOf(opaqueAt("/a")), layerOf(opaqueAt("/a"))},
		{"an opaque one over nothing", nil, layerOf(opaqueAt("/a")), layerOf(opaqueAt("/a"))},
		{"white, and there again", layerOf(whiteAt("/a")), layerOf(dirAt("/a"), fileAt("/a/b", "b")), layerOf(opaqueAt("/a"), fileAt("/a/b", "b"))},
		{"white below, and there again", layerOf(dirAt("/a"), whiteAt("/a/b")), layerOf(dirAt("/a"), dirAt("/a/b"), fileAt("/a/b/c", "")), layerOf(dirAt("/a"), opaqueAt("/a/b"), fileAt("/a/b/c", ""))},
		{"there, and white three names deep", below, layerOf(dirAt("/a"), dirAt("/a/b"), whiteAt("/a/b/c")), slices.Concat(below[:2], layerOf(whiteAt("/a/b/c")), below[3:])},
		{"a white below what is opaque above it", below, layerOf(opaqueAt("/a"), dirAt("/a/d")), layerOf(opaqueAt("/a"), dirAt("/a/d"))},
		{"names that begin alike", layerOf(dirAt("/a"), fileAt("/a/b", ""), dirAt("/aa"), whiteAt("/aa/b")), layerOf(whiteAt("/a")), layerOf(whiteAt("/a"), dirAt("/aa"), whiteAt("/aa/b"))},
		{"beside one another", layerOf(fileAt("/b", "b"), whiteAt("/d")), layerOf(dirAt("/a"), opaqueAt("/c"), fileAt("/e", "e")), layerOf(dirAt("/a"), fileAt("/b", "b"), opaqueAt("/c"), whiteAt("/d"), fileAt("/e", "e"))},
	}
	trees := append(treesToMerge()[:40], slices.Concat(layerOf(dirAt("/a"), dirAt("/a/b"), fileAt("/a/b/c", "t"), fileAt("/a/b/d", ""), dirAt("/a/d"), fileAt("/a/d/e", ""), fileAt("/a/e", "")), fullTree(40)[7:30]))
	for _, k := range known {
		wantAnswer(t, k.name, impl.SquashLayers(k.low, k.high), impl.LayerResult{Layer: k.answer})
		wantSquash(t, k.low, k.high, trees...)
	}
}

func TestSquashLayersOfAllSmall(t *testing.T) {
	trees, layers := treesToMerge(), append(rightLayers(), []impl.Entry{}, fullLayer(11), fullLayer(12))
	for i, low := range layers {
		for j := i % 19; j < len(layers); j += 19 {
			at := (i*31 + j) % (len(trees) - 4)
			wantSquash(t, low, withOtherBytes(layers[j]), trees[at], trees[(at*7+3)%len(trees)])
		}
	}
}

func TestSquashLayersOfMaxEntries(t *testing.T) {
	many := impl.LayerResult{Code: impl.ErrMany}
	full := fullLayer(12)
	for _, path := range []string{"/aa", "/b", "/zzzz"} {
		for _, e := range kindsAt(path) {
			wantAnswer(t, "one more above: "+told(e), impl.SquashLayers(full, layerOf(e)), many)
			wantAnswer(t, "one more below: "+told(e), impl.SquashLayers(layerOf(e), full), many)
			wantSquash(t, full[:11], layerOf(e), fullTree(7))
			if got := impl.SquashLayers(full[:11], layerOf(e)); got.Code != impl.OK || len(got.Layer) != 12 {
				t.Errorf("%s is not taken as the last one", told(e))
			}
		}
	}
	for _, e := range full {
		for _, other := range kindsAt(e.Path) {
			if strings.Count(e.Path, "/") == 1 {
				wantSquash(t, full, layerOf(other), nil, fullTree(12), fullTree(25))
				if code := impl.SquashLayers(full, layerOf(other)).Code; code != impl.OK {
					t.Errorf("a full layer does not take %s again: %d", e.Path, code)
				}
			}
		}
	}
	wantAnswer(t, "the same twice", impl.SquashLayers(full, full), impl.LayerResult{Layer: full})
	wantAnswer(t, "what goes makes room", impl.SquashLayers(full, layerOf(whiteAt("/a"), fileAt("/b", ""), dirAt("/c"), opaqueAt("/d"), whiteAt("/e"))),
		impl.LayerResult{Layer: slices.Concat(layerOf(whiteAt("/a"), fileAt("/b", ""), dirAt("/c"), opaqueAt("/d"), whiteAt("/e")), full[5:])})
	tail := slices.Concat(full[5:], layerOf(dirAt("/x"), fileAt("/x/a", ""), fileAt("/x/b", ""), fileAt("/x/c", ""), fileAt("/x/d", "")))
	wantAnswer(t, "more on the way alone", impl.SquashLayers(tail, layerOf(fileAt("/a", ""), whiteAt("/x"))), impl.LayerResult{Layer: slices.Concat(layerOf(fileAt("/a", "")), full[5:], layerOf(whiteAt("/x")))})
	wantAnswer(t, "two full ones", impl.SquashLayers(full, withOtherBytes(full)), impl.LayerResult{Layer: withOtherBytes(full)})
	for n := range 13 {
		for m := range 13 {
			var low, high []impl.Entry
			for i := range n {
				low = append(low, fileAt("/l"+string(rune('a'+i)), ""))
			}
			for i := range m {
				high = append(high, dirAt("/h"+string(rune('a'+i))))
			}
			want := impl.LayerResult{Layer: slices.Concat(high, low)}
			if n+m > 12 {
				want = many
			}
			wantAnswer(t, fmt.Sprintf("%d and %d", n, m), impl.SquashLayers(low, high), want)
		}
	}
}

// wantDiff asks the model, and that what leads from a to b leads there.
func wantDiff(t *testing.T, a []impl.Entry, b []impl.Entry) {
	t.Helper()
	name := func() string { return "DiffTrees of " + told(a) + " and " + told(b) }
	got := impl.DiffTrees(a, b)
	wantOneLayer(t, name, got, diffByHand(a, b))
	if got.Code != impl.OK {
		return
	}
	if code := impl.LayerFault(got.Layer); code != impl.OK {
		t.Fatalf("%s leaves the fault %d", name(), code)
	}
	wantOneTree(t, func() string { return name() + " over the first" }, impl.MergeLayer(a, got.Layer), impl.TreeResult{Tree: b})
}

func TestDiffTreesKnown(t *testing.T) {
	deep := layerOf(dirAt("/a"), dirAt("/a/b"), fileAt("/a/b/c", "x"), dirAt("/a/d"), fileAt("/e", ""))
	known := []struct {
		name   string
		a, b   []impl.Entry
		answer []impl.Entry
	}{
		{"nothing to nothing", nil, nil, nil},
		{"the same", deep, deep, nil},
		{"from nothing", nil, deep, deep},
		{"to nothing", deep, nil, layerOf(whiteAt("/a"), whiteAt("/e"))},
		{"a file goes at the top", deep, deep[:4], layerOf(whiteAt("/e"))},
		{"a file goes three names deep", deep, slices.Concat(deep[:2], deep[3:]), layerOf(dirAt("/a"), dirAt("/a/b"), whiteAt("/a/b/c"))},
		{"a directory goes with what it has", deep, slices.Concat(deep[:1], deep[3:]), layerOf(dirAt("/a"), whiteAt("/a/b"))},
		{"a directory goes that has nothing", deep, slices.Concat(deep[:3], deep[4:]), layerOf(dirAt("/a"), whiteAt("/a/d"))},
		{"a file comes three names deep", slices.Concat(deep[:2], deep[3:]), deep, layerOf(dirAt("/a"), dirAt("/a/b"), fileAt("/a/b/c", "x"))},
		{"a directory comes", slices.Concat(deep[:3], deep[4:]), deep, layerOf(dirAt("/a"), dirAt("/a/d"))},
		{"a file comes at the top", deep[:4], deep, layerOf(fileAt("/e", ""))},
		{"other bytes three names deep", deep, slices.Concat(deep[:2], layerOf(fileAt("/a/b/c", "y")), deep[3:]), layerOf(dirAt("/a"), dirAt("/a/b"), fileAt("/a/b/c", "y"))},
		{"other bytes at the top", deep, slices.Concat(deep[:4], layerOf(fileAt("/e", "e"))), layerOf(fileAt("/e", "e"))},
		{"a directory in place of a file", deep, slices.Concat(deep[:4], layerOf(dirAt("/e"))), layerOf(dirAt("/e"))},
		{"a directory that has something in place of a file", deep, slices.Concat(deep[:4], layerOf(dirAt("/e"), fileAt("/e/f", ""))), layerOf(dirAt("/e"), fileAt("/e/f", ""))},
		{"a file in place of a directory that has something", deep, layerOf(fileAt("/a", ""), fileAt("/e", "")), layerOf(fileAt("/a", ""))},
		{"a file in place of a directory below", deep, slices.Concat(deep[:1], layerOf(fileAt("/a/b", "")), deep[3:]), layerOf(dirAt("/a"), fileAt("/a/b", ""))},
		{"a file in place of a directory that has nothing", deep, slices.Concat(deep[:3], layerOf(fileAt("/a/d", "d")), deep[4:]), layerOf(dirAt("/a"), fileAt("/a/d", "d"))},
		{"all but the top goes", deep, layerOf(dirAt("/a"), deep[4]), layerOf(dirAt("/a"), whiteAt("/a/b"), whiteAt("/a/d"))},
		{"a directory three names deep in place of a file", deep, slices.Concat(deep[:2], layerOf(dirAt("/a/b/c")), deep[3:]), layerOf(dirAt("/a"), dirAt("/a/b"), dirAt("/a/b/c"))},
		{"names that begin alike", layerOf(dirAt("/a"), fileAt("/a/b", ""), dirAt("/aa"), fileAt("/aa/b", "")), layerOf(dirAt("/aa"), fileAt("/aa/b", "")), layerOf(whiteAt("/a"))},
		{"names that begin alike, the longer one goes", layerOf(dirAt("/a"), fileAt("/a/b", ""), dirAt("/aa"), fileAt("/aa/b", "")), layerOf(dirAt("/a"), fileAt("/a/b", "")), layerOf(whiteAt("/aa"))},
	}
	for _, k := range known {
		wantAnswer(t, k.name, impl.DiffTrees(k.a, k.b), impl.LayerResult{Layer: k.answer})
		wantDiff(t, k.a, k.b)
	}
}

func TestDiffTreesOfAllSmall(t *testing.T) {
	trees := rightTrees()
	for i, a := range trees {
		wantDiff(t, a, a)
		for j, b := range trees {
			if (i+j)%2 == 0 {
				b = withOtherBytes(b)
			}
			wantDiff(t, a, b)
		}
	}
}

func TestDiffTreesFieldByField(t *testing.T) {
	long := fileAt("/a", "abcdefghijklmnopqrst")
	longer, swapped, last := long, long, long
	longer.Size++
	swapped.Chunks = []int64{long.Chunks[1], long.Chunks[0], long.Chunks[2]}
	last.Chunks = []int64{long.Chunks[0], long.Chunks[1], long.Chunks[2] ^ 1}
	for _, other := range layerOf(longer, swapped, last, fileAt("/a", ""), fileAt("/a", "abcdefghijklmnop")) {
		wantAnswer(t, "DiffTrees to "+told(other), impl.DiffTrees(layerOf(long), layerOf(other)), impl.LayerResult{Layer: layerOf(other)})
		wantAnswer(t, "DiffTrees from "+told(other), impl.DiffTrees(layerOf(other), layerOf(long)), impl.LayerResult{Layer: layerOf(long)})
	}
	none := layerOf(impl.Entry{Path: "/a", Kind: 1, Chunks: []int64{}})
	wantAnswer(t, "no chunks and none", impl.DiffTrees(none, layerOf(fileAt("/a", ""))), impl.LayerResult{})
	wantAnswer(t, "none and no chunks", impl.DiffTrees(layerOf(fileAt("/a", "")), none), impl.LayerResult{})
}

func TestDiffTreesOfMaxEntries(t *testing.T) {
	many := impl.LayerResult{Code: impl.ErrMany}
	full := fullTree(40)
	wantAnswer(t, "forty and the same forty", impl.DiffTrees(full, fullTree(40)), impl.LayerResult{})
	wantAnswer(t, "forty from nothing", impl.DiffTrees(nil, full), many)
	wantAnswer(t, "forty to nothing", impl.DiffTrees(full, nil), impl.LayerResult{Layer: layerOf(whiteAt("/a"), whiteAt("/ab"), whiteAt("/b"))})
	wantAnswer(t, "a file in place of a directory that has 33", impl.DiffTrees(full, append(fullTree(6), fileAt("/b", ""))), impl.LayerResult{Layer: layerOf(fileAt("/b", ""))})
	for n := range 41 {
		wantDiff(t, full, full[:n])
		wantDiff(t, full[:n], full)
		wantDiff(t, nil, full[:n])
	}
	for n := range 20 {
		var flat, dirs, files []impl.Entry
		for i := range n {
			p := "/" + string(rune('a'+i))
			flat, dirs, files = append(flat, fileAt(p, "")), append(dirs, dirAt(p)), append(files, fileAt(p, "other"))
		}
		whites := slices.Clone(flat)
		for i := range whites {
			whites[i].Kind = 3
		}
		for name, k := range map[string][3][]impl.Entry{"come": {nil, flat, flat}, "go": {flat, nil, whites}, "become directories": {flat, dirs, dirs}, "become files": {dirs, flat, flat}, "have other bytes": {flat, files, files}} {
			want := impl.LayerResult{Layer: k[2]}
			if n > 12 {
				want = many
			}
			wantAnswer(t, fmt.Sprintf("%d %s", n, name), impl.DiffTrees(k[0], k[1]), want)
		}
	}
	// The directories above count, too.
	for n := 8; n < 13; n++ {
		tree := layerOf(dirAt("/a"), dirAt("/a/a"))
		for i := range n {
			tree = append(tree, fileAt("/a/a/"+string(rune('a'+i)), ""))
		}
		wantDiff(t, tree, tree[:2])
		if got := impl.DiffTrees(tree, tree[:2]); (got.Code == impl.OK) != (n <= 10) {
			t.Errorf("%d whites below two directories: %d", n, got.Code)
		}
	}
}

// faultyLists: the layers with a fault that are few enough to be handed in often.
func faultyLists() []faultyLayer {
	return slices.DeleteFunc(faultyLayers(), func(f faultyLayer) bool { return len(f.layer) > 40 })
}

func faultyFew() []faultyLayer {
	return slices.DeleteFunc(faultyTrees(), func(f faultyLayer) bool { return len(f.layer) > 45 })
}

func TestLayersFault(t *testing.T) {
	right := [][]impl.Entry{nil, fullLayer(12), layerOf(whiteAt("/a")), layerOf(opaqueAt("/a"), dirAt("/a/b"))}
	for n := range 5 {
		if code := impl.LayersFault(right[:n]); code != impl.OK {
			t.Errorf("%d layers: %d", n, code)
		}
	}
	for n := 5; n < 20; n++ {
		if code := impl.LayersFault(slices.Repeat([][]impl.Entry{nil}, n)); code != impl.ErrMany {
			t.Errorf("%d layers: %d", n, code)
		}
	}
	if code := impl.LayersFault([][]impl.Entry{}); code != impl.OK {
		t.Errorf("no layers: %d", code)
	}
	for _, f := range faultyLists() {
		for n := 1; n <= 6; n++ {
			for at := range n {
				layers := slices.Repeat([][]impl.Entry{layerOf(dirAt("/a"))}, n)
				layers[at] = f.layer
				want := f.code
				if n > 4 {
					want = impl.ErrMany
				}
				if code := impl.LayersFault(layers); code != want {
					t.Errorf("%s as layer %d of %d: %d, not %d", f.name, at, n, code, want)
				}
				wantAnswer(t, "MergeAll: "+f.name, impl.MergeAll(layers), impl.TreeResult{Code: want})
			}
		}
	}
}

// TestFirstFaultOfLayers: of two layers with a fault the lower one's is told.
func TestFirstFaultOfLayers(t *testing.T) {
	lists := faultyLists()
	for i, f := range lists {
		g := lists[(i*7+3)%len(lists)]
		for _, layers := range [][][]impl.Entry{{f.layer, g.layer}, {nil, f.layer, nil, g.layer}, {fullLayer(12), f.layer, g.layer}, {f.layer, g.layer, f.layer, g.layer}} {
			if code := impl.LayersFault(layers); code != f.code {
				t.Errorf("%s ahead of %s: %d, not %d", f.name, g.name, code, f.code)
			}
			wantAnswer(t, f.name+" ahead of "+g.name, impl.MergeAll(layers), impl.TreeResult{Code: f.code})
		}
		five := [][]impl.Entry{f.layer, g.layer, nil, nil, nil}
		wantAnswer(t, "five, with "+f.name, impl.MergeAll(five), impl.TreeResult{Code: impl.ErrMany})
		if code := impl.LayersFault(five); code != impl.ErrMany {
			t.Errorf("five, with %s: %d", f.name, code)
		}
	}
}

func TestFaultsOfTreesAndLayers(t *testing.T) {
	trees, layers := faultyFew(), faultyLists()
	for i, f := range trees {
		for _, layer := range [][]impl.Entry{nil, fullLayer(12), layers[i%len(layers)].layer, layers[(i*5+1)%len(layers)].layer} {
			wantAnswer(t, "MergeLayer over "+f.name, impl.MergeLayer(f.layer, layer), impl.TreeResult{Code: f.code})
		}
		g := trees[(i*11+5)%len(trees)]
		for _, tree := range [][]impl.Entry{nil, fullTree(3), fullTree(40)} {
			wantAnswer(t, "DiffTrees from "+f.name, impl.DiffTrees(f.layer, tree), impl.LayerResult{Code: f.code})
			wantAnswer(t, "DiffTrees to "+f.name, impl.DiffTrees(tree, f.layer), impl.LayerResult{Code: f.code})
		}
		wantAnswer(t, "DiffTrees from "+f.name+" to "+g.name, impl.DiffTrees(f.layer, g.layer), impl.LayerResult{Code: f.code})
		wantAnswer(t, "DiffTrees from it to itself: "+f.name, impl.DiffTrees(f.layer, f.layer), impl.LayerResult{Code: f.code})
	}
	for i, f := range layers {
		for _, tree := range [][]impl.Entry{nil, fullTree(3), fullTree(40)} {
			wantAnswer(t, "MergeLayer of "+f.name, impl.MergeLayer(tree, f.layer), impl.TreeResult{Code: f.code})
		}
		g := layers[(i*11+5)%len(layers)]
		for _, layer := range [][]impl.Entry{nil, layerOf(whiteAt("/a")), fullLayer(12)} {
			wantAnswer(t, "SquashLayers of "+f.name, impl.SquashLayers(f.layer, layer), impl.LayerResult{Code: f.code})
			wantAnswer(t, "SquashLayers with "+f.name, impl.SquashLayers(layer, f.layer), impl.LayerResult{Code: f.code})
		}
		wantAnswer(t, "SquashLayers of "+f.name+" and "+g.name, impl.SquashLayers(f.layer, g.layer), impl.LayerResult{Code: f.code})
	}
}

// TestKindsThatNoTreeHas: a layer that is no tree is taken as a layer alone.
func TestKindsThatNoTreeHas(t *testing.T) {
	for _, e := range layerOf(whiteAt("/a"), opaqueAt("/a")) {
		wantAnswer(t, "MergeLayer over "+told(e), impl.MergeLayer(layerOf(e), nil), impl.TreeResult{Code: impl.ErrForm})
		wantAnswer(t, "DiffTrees from "+told(e), impl.DiffTrees(layerOf(e), nil), impl.LayerResult{Code: impl.ErrForm})
		wantAnswer(t, "DiffTrees to "+told(e), impl.DiffTrees(nil, layerOf(e)), impl.LayerResult{Code: impl.ErrForm})
		wantAnswer(t, "SquashLayers of "+told(e), impl.SquashLayers(layerOf(e), nil), impl.LayerResult{Layer: layerOf(e)})
	}
	thirteen := fullTree(13)
	wantAnswer(t, "a tree as a layer", impl.MergeLayer(nil, thirteen), impl.TreeResult{Code: impl.ErrMany})
	wantAnswer(t, "a tree as a lower layer", impl.SquashLayers(thirteen, nil), impl.LayerResult{Code: impl.ErrMany})
	wantAnswer(t, "a tree as a higher layer", impl.SquashLayers(nil, thirteen), impl.LayerResult{Code: impl.ErrMany})
}

// numberedFiles: n files at the top whose names begin with a letter.
func numberedFiles(letter string, n int) []impl.Entry {
	var layer []impl.Entry
	for i := range n {
		layer = append(layer, fileAt("/"+letter+string(rune('a'+i)), fmt.Sprint(letter, i)))
	}
	return layer
}

func TestMergeAllKnown(t *testing.T) {
	a, b := layerOf(dirAt("/a"), fileAt("/a/b", "b"), fileAt("/c", "c")), layerOf(whiteAt("/a"), fileAt("/c", "other"))
	again, opaque := layerOf(dirAt("/a"), fileAt("/a/d", "d")), layerOf(opaqueAt("/a"), dirAt("/a/e"))
	known := []struct {
		name   string
		layers [][]impl.Entry
		answer []impl.Entry
	}{
		{"no layers", nil, nil},
		{"no layers but a list", [][]impl.Entry{}, nil},
		{"one of nothing", [][]impl.Entry{nil}, nil},
		{"four of nothing", [][]impl.Entry{nil, {}, nil, {}}, nil},
		{"one", [][]impl.Entry{a}, a},
		{"one of whites alone", [][]impl.Entry{layerOf(whiteAt("/a"), whiteAt("/b"))}, nil},
		{"one opaque", [][]impl.Entry{opaque}, layerOf(dirAt("/a"), dirAt("/a/e"))},
		{"there and white", [][]impl.Entry{a, b}, layerOf(fileAt("/c", "other"))},
		{"white and there", [][]impl.Entry{b, a}, a},
		{"there, white and there again", [][]impl.Entry{a, b, again}, layerOf(dirAt("/a"), fileAt("/a/d", "d"), fileAt("/c", "other"))},
		{"there, there again and white", [][]impl.Entry{a, again, b}, layerOf(fileAt("/c", "other"))},
		{"four", [][]impl.Entry{a, b, again, opaque}, layerOf(dirAt("/a"), dirAt("/a/e"), fileAt("/c", "other"))},
		{"four, the opaque one first", [][]impl.Entry{opaque, a, again, layerOf(whiteAt("/c"))}, layerOf(dirAt("/a"), fileAt("/a/b", "b"), fileAt("/a/d", "d"), dirAt("/a/e"))},
		{"a file, a directory and a file", [][]impl.Entry{layerOf(fileAt("/a", "1")), again, layerOf(fileAt("/a", "2"))}, layerOf(fileAt("/a", "2"))},
		{"a directory, a file and a directory", [][]impl.Entry{again, layerOf(fileAt("/a", "1")), layerOf(dirAt("/a"))}, layerOf(dirAt("/a"))},
	}
	for _, k := range known {
		wantAnswer(t, k.name, impl.MergeAll(k.layers), impl.TreeResult{Tree: k.answer})
	}
}

func TestMergeAllOfMaxItems(t *testing.T) {
	l, m, n := numberedFiles("l", 12), numberedFiles("m", 12), numberedFiles("n", 12)
	for last := range 13 {
		o := numberedFiles("o", last)
		want := impl.TreeResult{Tree: slices.Concat(l, m, n, o)}
		if last > 4 {
			want = impl.TreeResult{Code: impl.ErrMany}
		}
		wantAnswer(t, fmt.Sprintf("36 and %d", last), impl.MergeAll([][]impl.Entry{l, m, n, o}), want)
		wantAnswer(t, fmt.Sprintf("36 and %d below", last), impl.MergeAll([][]impl.Entry{o, l, m, n}), want)
	}
	for _, layers := range [][][]impl.Entry{{l, m, n, l}, {l, m, n, nil}, {nil, l, m, n}} {
		wantAnswer(t, "36", impl.MergeAll(layers), impl.TreeResult{Tree: slices.Concat(l, m, n)})
	}
	wantAnswer(t, "five", impl.MergeAll([][]impl.Entry{l, nil, nil, nil, nil}), impl.TreeResult{Code: impl.ErrMany})
}

// TestManyLayers lays long layers over one another, beside what is worked out apart from the program.
func TestManyLayers(t *testing.T) {
	spread := uint32(31)
	next := func(n int) int {
		spread = spread*1664525 + 1013904223
		return int(spread>>8) % n
	}
	paths := textsOver([]string{"/a", "/b", "/ab", "/c"}, "", 3)
	slices.Sort(paths)
	layer := func(kinds []int) []impl.Entry {
		var out []impl.Entry
		wanted := next(13)
		for at, left := next(len(paths)), len(paths); len(out) < wanted && left > 0; at, left = at+1, left-1 {
			p := paths[at%len(paths)]
			if !parentIsThere(out, p) || next(3) == 0 {
				continue
			}
			e := kindsAt(p)[kinds[next(len(kinds))]]
			if e.Kind == 1 {
				e = fileAt(p, string(countedBytes(next(25))))
			}
			out = sortedLayer(layerByPath(append(out, e)))
		}
		return out
	}
	codes := map[string]int{}
	anyKind, treeKinds := []int{0, 1, 1, 1, 2, 3}, []int{0, 1, 1}
	for range 2000 {
		layers := [][]impl.Entry{layer(treeKinds), layer(treeKinds), layer(anyKind), layer(anyKind)}
		name := func() string { return told(layers) }
		all := impl.MergeAll(layers)
		wantOneTree(t, name, all, mergeAllByHand(layers))
		codes[fmt.Sprint("merge ", all.Code)]++
		low := impl.MergeAll(layers[:2])
		wantSquash(t, layers[2], layers[3], low.Tree, all.Tree)
		wantSquash(t, layers[0], layers[3], low.Tree)
		squashed := impl.SquashLayers(layers[2], layers[3])
		codes[fmt.Sprint("squash ", squashed.Code)]++
		if squashed.Code == impl.OK && all.Code == impl.OK {
			wantOneTree(t, name, impl.MergeAll([][]impl.Entry{layers[0], layers[1], squashed.Layer}), all)
		}
		if all.Code == impl.OK {
			wantDiff(t, low.Tree, all.Tree)
			wantDiff(t, all.Tree, low.Tree)
			codes[fmt.Sprint("diff ", impl.DiffTrees(low.Tree, all.Tree).Code)]++
		}
	}
	for _, code := range []string{"merge 0", "squash 0", "squash 2", "diff 0", "diff 2"} {
		if codes[code] < 100 {
			t.Errorf("%s came %d times alone", code, codes[code])
		}
	}
}
