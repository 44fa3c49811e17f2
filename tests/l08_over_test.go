package tests

import (
	"cmp"
	"fmt"
	"maps"
	"path"
	"slices"
	"strings"
	"testing"

	"loop.example/g00299/impl"
)

// seenEntry: an entry as it is seen, and the layer that says it.
type seenEntry struct {
	place int64
	e     impl.Entry
}

// seenByHand goes from the lowest layer up and strikes out what is not seen any more; the program looks down.
func seenByHand(layers [][]impl.Entry) map[string]seenEntry {
	seen := map[string]seenEntry{}
	for place, layer := range layers {
		high := layerByPath(layer)
		maps.DeleteFunc(seen, func(p string, _ seenEntry) bool { return hides(high, p) })
		for p, e := range high {
			switch e.Kind {
			case 1:
				seen[p] = seenEntry{int64(place), e}
			case 2, 4:
				seen[p] = seenEntry{int64(place), dirAt(p)}
			case 3:
				delete(seen, p)
			}
		}
	}
	return seen
}

// overByHand: what LookOver and PlaceOver have to answer.
func overByHand(layers [][]impl.Entry, p string) (impl.LayerResult, impl.IntResult) {
	code := cmp.Or(layersFaultByHand(layers), pathFaultByLibrary(p))
	at, there := seenByHand(layers)[p]
	if code == impl.OK && !there {
		code = impl.ErrNone
	}
	if code != impl.OK {
		return impl.LayerResult{Code: code}, impl.IntResult{Code: code}
	}
	return impl.LayerResult{Layer: layerOf(at.e)}, impl.IntResult{Value: at.place}
}

func listOverByHand(layers [][]impl.Entry, p string) impl.NamesResult {
	if code := layersFaultByHand(layers); code != impl.OK {
		return impl.NamesResult{Code: code}
	}
	if p != "/" {
		at, _ := overByHand(layers, p)
		if at.Code != impl.OK {
			return impl.NamesResult{Code: at.Code}
		}
		if at.Layer[0].Kind == 1 {
			return impl.NamesResult{Code: impl.ErrDir}
		}
	}
	var names []string
	for other := range seenByHand(layers) {
		if path.Dir(other) == p {
			names = append(names, path.Base(other))
		}
	}
	slices.Sort(names)
	return impl.NamesResult{Names: names}
}

func pathsOverByHand(layers [][]impl.Entry) impl.NamesResult {
	if code := layersFaultByHand(layers); code != impl.OK {
		return impl.NamesResult{Code: code}
	}
	return impl.NamesResult{Names: slices.Sorted(maps.Keys(seenByHand(layers)))}
}

func hidesBelowByHand(layer []impl.Entry, p string) bool {
	if layerFaultByHand(layer) != impl.OK || pathFaultByLibrary(p) != impl.OK {
		return false
	}
	return slices.ContainsFunc(layer, func(e impl.Entry) bool { return e.Kind != 2 && strings.HasPrefix(p+"/", e.Path+"/") })
}

func sameNames(a impl.NamesResult, b impl.NamesResult) bool {
	return a.Code == b.Code && slices.Equal(a.Names, b.Names)
}

// pathsToLookAt: all paths of the layers, those above them, and some below and beside them.
func pathsToLookAt(layers [][]impl.Entry) []string {
	paths := []string{"/zzzz", "/zzzz/z"}
	for _, p := range pathsIn(layers...) {
		for ; p != "/"; p = path.Dir(p) {
			paths = append(paths, p)
			if strings.Count(p, "/") < 3 {
				paths = append(paths, p+"/q")
			}
		}
	}
	slices.Sort(paths)
	return slices.Compact(paths)
}

// wantLook asks one path through the layers: of the model, and of the tree that they make, if there is room for it.
func wantLook(t *testing.T, layers [][]impl.Entry, tree impl.TreeResult, p string) {
	t.Helper()
	name := func() string { return p + " through " + told(layers) }
	look, place, list := impl.LookOver(layers, p), impl.PlaceOver(layers, p), impl.ListOver(layers, p)
	wantEntry, wantPlace := overByHand(layers, p)
	wantOneLayer(t, name, look, wantEntry)
	if place != wantPlace {
		t.Fatalf("the place of %s: %v, not %v", name(), place, wantPlace)
	}
	if want := listOverByHand(layers, p); !sameNames(list, want) {
		t.Fatalf("what is in %s: %s, not %s", name(), told(list), told(want))
	}
	if tree.Code != impl.OK {
		return
	}
	wantOneLayer(t, name, look, impl.StatTree(tree.Tree, p))
	if want := impl.ListTree(tree.Tree, p); !sameNames(list, want) {
		t.Fatalf("what is in %s: %s, but in the tree %s", name(), told(list), told(want))
	}
}

// wantHidden asks, of each layer that hides a path, that nothing below it hangs on the lower ones.
func wantHidden(t *testing.T, layers [][]impl.Entry, p string) {
	t.Helper()
	for at, layer := range layers {
		hidden := impl.HidesBelow(layer, p)
		if want := hidesBelowByHand(layer, p); hidden != want {
			t.Fatalf("HidesBelow of %s and %s: %v", told(layer), p, hidden)
		}
		if !hidden || strings.Count(p, "/") > 2 {
			continue
		}
		bare := append(make([][]impl.Entry, at), layers[at:]...)
		for _, below := range []string{p + "/b", p + "/c", p + "/q"} {
			if one, other := impl.PlaceOver(layers, below), impl.PlaceOver(bare, below); one != other || one.Code == impl.OK && one.Value < int64(at) {
				t.Fatalf("layer %d of %s hides what is below %s, but %s is seen in layer %d", at, told(layers), p, below, one.Value)
			}
		}
	}
}

func wantOver(t *testing.T, layers [][]impl.Entry) {
	t.Helper()
	tree := impl.MergeAll(layers)
	for _, p := range pathsToLookAt(layers) {
		wantLook(t, layers, tree, p)
		wantHidden(t, layers, p)
	}
	name := func() string { return told(layers) }
	top, paths := impl.ListOver(layers, "/"), impl.PathsOver(layers)
	if want := listOverByHand(layers, "/"); !sameNames(top, want) {
		t.Fatalf("what is in / of %s: %s, not %s", name(), told(top), told(want))
	}
	if want := pathsOverByHand(layers); !sameNames(paths, want) {
		t.Fatalf("the paths of %s: %s, not %s", name(), told(paths), told(want))
	}
	if tree.Code == impl.OK && (!slices.Equal(paths.Names, pathsIn(tree.Tree)) || !sameNames(top, impl.ListTree(tree.Tree, "/"))) {
		t.Fatalf("%s: %s and %s, but the tree has %s", name(), told(top), told(paths), told(pathsIn(tree.Tree)))
	}
}

// wantSeen: the entry that is seen of a path and the place of its layer; no entry: none is seen.
func wantSeen(t *testing.T, name string, layers [][]impl.Entry, p string, place int64, e ...impl.Entry) {
	t.Helper()
	code := int64(impl.OK)
	if len(e) == 0 {
		code = impl.ErrNone
	}
	wantAnswer(t, name+": LookOver "+p, impl.LookOver(layers, p), impl.LayerResult{Code: code, Layer: e})
	wantAnswer(t, name+": PlaceOver "+p, impl.PlaceOver(layers, p), impl.IntResult{Code: code, Value: place})
}

func wantNames(t *testing.T, name string, layers [][]impl.Entry, p string, names ...string) {
	t.Helper()
	wantAnswer(t, name+": ListOver "+p, impl.ListOver(layers, p), impl.NamesResult{Names: names})
}

func TestOverKnown(t *testing.T) {
	file, other := fileAt("/a", "high"), fileAt("/a", "low")
	below := layerOf(dirAt("/a"), dirAt("/a/b"), fileAt("/a/b/c", "x"), fileAt("/a/d", ""))
	opaque := layerOf(opaqueAt("/a"), fileAt("/a/e", "e"))
	known := []struct {
		name   string
		layers [][]impl.Entry
		paths  []string
	}{
		{"no layers", nil, nil},
		{"no layers but a list", [][]impl.Entry{}, nil},
		{"one of nothing", [][]impl.Entry{nil}, nil},
		{"four of nothing", [][]impl.Entry{nil, {}, nil, {}}, nil},
		{"a file", [][]impl.Entry{layerOf(file)}, []string{"/a"}},
		{"a directory", [][]impl.Entry{layerOf(dirAt("/a"))}, []string{"/a"}},
		{"a white", [][]impl.Entry{layerOf(whiteAt("/a"))}, nil},
		{"an opaque one", [][]impl.Entry{layerOf(opaqueAt("/a"))}, []string{"/a"}},
		{"a tree", [][]impl.Entry{below}, []string{"/a", "/a/b", "/a/b/c", "/a/d"}},
		{"nothing over a tree", [][]impl.Entry{below, nil}, []string{"/a", "/a/b", "/a/b/c", "/a/d"}},
		{"a tree over nothing", [][]impl.Entry{nil, below}, []string{"/a", "/a/b", "/a/b/c", "/a/d"}},
		{"a file over a file", [][]impl.Entry{layerOf(other), layerOf(file)}, []string{"/a"}},
		{"a file over a tree", [][]impl.Entry{below, layerOf(file)}, []string{"/a"}},
		{"a white over a tree", [][]impl.Entry{below, layerOf(whiteAt("/a"))}, nil},
		{"an opaque one over a tree", [][]impl.Entry{below, opaque}, []string{"/a", "/a/e"}},
		{"a directory over a tree", [][]impl.Entry{below, layerOf(dirAt("/a"))}, []string{"/a", "/a/b", "/a/b/c", "/a/d"}},
		{"a directory over a file", [][]impl.Entry{layerOf(other), layerOf(dirAt("/a"))}, []string{"/a"}},
		{"a tree over an opaque one", [][]impl.Entry{opaque, below}, []string{"/a", "/a/b", "/a/b/c", "/a/d", "/a/e"}},
		{"a directory over a file over a tree", [][]impl.Entry{below, layerOf(file), layerOf(dirAt("/a"))}, []string{"/a"}},
		{"a directory over a white over a tree", [][]impl.Entry{below, layerOf(whiteAt("/a")), layerOf(dirAt("/a"), fileAt("/a/z", ""))}, []string{"/a", "/a/z"}},
		{"a directory over an opaque one over a tree", [][]impl.Entry{below, opaque, layerOf(dirAt("/a"), fileAt("/a/z", ""))}, []string{"/a", "/a/e", "/a/z"}},
		{"a tree, a white, an opaque one and a directory", [][]impl.Entry{below, layerOf(whiteAt("/a")), opaque, layerOf(dirAt("/a"), dirAt("/a/b"))}, []string{"/a", "/a/b", "/a/e"}},
		{"one white below", [][]impl.Entry{below, layerOf(dirAt("/a"), whiteAt("/a/b"))}, []string{"/a", "/a/d"}},
		{"one white three names deep", [][]impl.Entry{below, layerOf(dirAt("/a"), dirAt("/a/b"), whiteAt("/a/b/c"))}, []string{"/a", "/a/b", "/a/d"}},
		{"names that begin alike", [][]impl.Entry{layerOf(dirAt("/a"), fileAt("/a/b", ""), dirAt("/aa"), fileAt("/aa/b", "")), layerOf(whiteAt("/a"))}, []string{"/aa", "/aa/b"}},
		{"names that begin alike, the longer one white", [][]impl.Entry{layerOf(dirAt("/a"), fileAt("/a/b", ""), dirAt("/aa"), fileAt("/aa/b", "")), layerOf(whiteAt("/aa"))}, []string{"/a", "/a/b"}},
		{"in order of bytes, not of names", [][]impl.Entry{layerOf(dirAt("/b"), fileAt("/b/a", "")), layerOf(fileAt("/ba", "")), layerOf(fileAt("/a", ""))}, []string{"/a", "/b", "/b/a", "/ba"}},
	}
	for _, k := range known {
		wantAnswer(t, k.name, impl.PathsOver(k.layers), impl.NamesResult{Names: k.paths})
		wantOver(t, k.layers)
		for len(k.layers) < 4 {
			k.layers = append(k.layers, nil)
			wantAnswer(t, k.name+", with one of nothing above", impl.PathsOver(k.layers), impl.NamesResult{Names: k.paths})
		}
		wantOver(t, k.layers)
	}
}

// TestEachKindOverEachAtEachDepth: each kind of entry over nothing, over a file and over directories, with up to two layers of nothing between and around.
func TestEachKindOverEachAtEachDepth(t *testing.T) {
	for _, home := range [][]impl.Entry{nil, layerOf(dirAt("/h")), layerOf(dirAt("/h"), dirAt("/h/i"))} {
		above := ""
		if len(home) > 0 {
			above = home[len(home)-1].Path
		}
		at, beside := above+"/m", fileAt(above+"/mm", "beside")
		overs := [][]impl.Entry{nil, layerOf(fileAt(at, "old")), layerOf(dirAt(at)), layerOf(opaqueAt(at)), layerOf(whiteAt(at))}
		if strings.Count(at, "/") < 3 {
			overs = append(overs, layerOf(dirAt(at), dirAt(at+"/n"), fileAt(at+"/o", "o")))
		}
		for _, over := range overs {
			for _, e := range kindsAt(at) {
				low, high := slices.Concat(home, over, layerOf(beside)), slices.Concat(home, layerOf(e))
				want := map[int64][]impl.Entry{1: layerOf(e), 2: layerOf(dirAt(at)), 4: layerOf(dirAt(at))}[e.Kind]
				for place, layers := range [][][]impl.Entry{1: {low, high}, 2: {low, nil, high}, 3: {low, home, home, high}} {
					if layers == nil {
						continue
					}
					name := fmt.Sprintf("%s over %s, as layer %d", told(e), told(over), place)
					wantSeen(t, name, layers, at, int64(place)*int64(len(want)), want...)
					wantSeen(t, name, layers, beside.Path, 0, beside)
					if e.Kind == 2 || e.Kind == 4 {
						names := []string{"n", "o"}
						if e.Kind == 4 || len(over) < 2 {
							names = nil
						}
						wantNames(t, name, layers, at, names...)
					}
					wantOver(t, layers)
				}
			}
		}
	}
}

// TestWhiteAndOpaqueAtOnce: one layer has a path as white and another one as opaque, each over the other.
func TestWhiteAndOpaqueAtOnce(t *testing.T) {
	low := layerOf(dirAt("/a"), fileAt("/a/b", "low"), fileAt("/a/c", "low"))
	white, opaque := layerOf(whiteAt("/a")), layerOf(opaqueAt("/a"), fileAt("/a/c", "new"))
	over := [][]impl.Entry{low, white, opaque}
	wantSeen(t, "opaque over white", over, "/a", 2, dirAt("/a"))
	wantSeen(t, "opaque over white", over, "/a/b", 0)
	wantSeen(t, "opaque over white", over, "/a/c", 2, fileAt("/a/c", "new"))
	wantNames(t, "opaque over white", over, "/a", "c")
	under := [][]impl.Entry{low, opaque, white}
	for _, p := range []string{"/a", "/a/b", "/a/c"} {
		wantSeen(t, "white over opaque", under, p, 0)
	}
	wantAnswer(t, "white over opaque", impl.ListOver(under, "/a"), impl.NamesResult{Code: impl.ErrNone})
	wantNames(t, "white over opaque", under, "/")
	again := [][]impl.Entry{low, opaque, white, layerOf(dirAt("/a"), fileAt("/a/z", ""))}
	wantNames(t, "a directory over white over opaque", again, "/a", "z")
	wantSeen(t, "a directory over white over opaque", again, "/a/c", 0)
	again[1], again[2] = white, opaque
	wantNames(t, "a directory over opaque over white", again, "/a", "c", "z")
	wantSeen(t, "a directory over opaque over white", again, "/a/c", 2, fileAt("/a/c", "new"))
	wantSeen(t, "a directory over opaque over white", again, "/a/b", 0)
	deep := [][]impl.Entry{low, layerOf(opaqueAt("/a"), whiteAt("/a/b"), fileAt("/a/d", "")), layerOf(dirAt("/a"), opaqueAt("/a/b"))}
	wantSeen(t, "an opaque one with a white, and that opaque above", deep, "/a/b", 2, dirAt("/a/b"))
	wantNames(t, "an opaque one with a white, and that opaque above", deep, "/a", "b", "d")
	wantNames(t, "an opaque one with a white, and that opaque above", deep, "/a/b")
	wantSeen(t, "an opaque one with a white", deep[:2], "/a/b", 0)
	wantNames(t, "an opaque one with a white", deep[:2], "/a", "d")
	for _, layers := range [][][]impl.Entry{over, under, again, deep} {
		wantOver(t, layers)
	}
}

// TestWhichLayerStops puts an entry of each kind one and two names above a path: into the layer that has the path, into one above it and into one below it.
func TestWhichLayerStops(t *testing.T) {
	p := "/a/b/c"
	file, home := fileAt(p, "seen"), layerOf(dirAt("/a"), dirAt("/a/b"))
	has := slices.Concat(home, layerOf(file))
	for depth, up := range []string{"/a", "/a/b"} {
		for _, e := range kindsAt(up) {
			name, alone := told(e), slices.Concat(home[:depth], layerOf(e))
			var left []impl.Entry
			if e.Kind == 2 {
				left = layerOf(file)
			}
			place := int64(len(left))
			wantSeen(t, name+" right above", [][]impl.Entry{has, alone}, p, 0, left...)
			wantSeen(t, name+" two above", [][]impl.Entry{has, nil, alone}, p, 0, left...)
			wantSeen(t, name+" above, directories over that", [][]impl.Entry{has, alone, home}, p, 0, left...)
			wantSeen(t, name+" above, and there again", [][]impl.Entry{has, alone, has}, p, 2, file)
			wantSeen(t, name+" below", [][]impl.Entry{alone, has}, p, 1, file)
			wantSeen(t, name+" below, and above that", [][]impl.Entry{alone, has, alone}, p, place, left...)
			for _, layers := range [][][]impl.Entry{{has, alone}, {has, nil, alone}, {has, alone, home}, {has, alone, has}, {alone, has}, {alone, has, alone}} {
				wantOver(t, layers)
			}
			if e.Kind == 1 || e.Kind == 3 {
				continue
			}
			// What the layer itself has below its opaque directory is seen; of lower layers nothing is.
			same := slices.Concat(alone, has[depth+1:])
			low := slices.Concat(home, layerOf(fileAt("/a/b/d", "low")))
			beside := slices.Repeat(layerOf(low[2]), len(left))
			wantSeen(t, name+" in the layer itself", [][]impl.Entry{has, same}, p, 1, file)
			wantSeen(t, name+" in the layer itself, directories over it", [][]impl.Entry{has, same, home}, p, 1, file)
			wantSeen(t, name+" with a file beside", [][]impl.Entry{low, same}, "/a/b/d", 0, beside...)
			wantSeen(t, name+" with a file beside, directories over it", [][]impl.Entry{low, same, home}, "/a/b/d", 0, beside...)
			wantOver(t, [][]impl.Entry{low, same, home})
		}
	}
}

// TestEntryOfThePathInEachLayer: an entry of each kind in the uppermost layer, in one between and in the lowest, the others of each kind too.
func TestEntryOfThePathInEachLayer(t *testing.T) {
	for _, p := range []string{"/a", "/a/b", "/a/b/c"} {
		home := layerOf(dirAt("/a"), dirAt("/a/b"))[:strings.Count(p, "/")-1]
		with := func(e impl.Entry) []impl.Entry { return append(slices.Clone(home), e) }
		for _, e := range kindsAt(p) {
			want := map[int64][]impl.Entry{1: layerOf(e), 2: layerOf(dirAt(p)), 4: layerOf(dirAt(p))}[e.Kind]
			for at := range 3 {
				layers := [][]impl.Entry{home, home, home}
				layers[at] = with(e)
				name := fmt.Sprintf("%s in layer %d alone", told(e), at)
				wantSeen(t, name, layers, p, int64(at*len(want)), want...)
				wantOver(t, layers)
				for _, other := range kindsAt(p) {
					other := with(other)
					for below := range at {
						layers[below] = other
					}
					wantSeen(t, name+", over "+told(other), layers, p, int64(at*len(want)), want...)
					wantOver(t, layers)
				}
			}
		}
	}
}

// TestDirectoryOfSeveralLayers: its entries stand in several layers, some white in a higher one, some there again above that.
func TestDirectoryOfSeveralLayers(t *testing.T) {
	layers := [][]impl.Entry{
		layerOf(dirAt("/a"), fileAt("/a/b", "0"), fileAt("/a/c", "0"), dirAt("/a/d"), fileAt("/a/d/x", "0"), fileAt("/a/e", "0")),
		layerOf(dirAt("/a"), whiteAt("/a/b"), whiteAt("/a/c"), fileAt("/a/f", "1")),
		layerOf(dirAt("/a"), fileAt("/a/b", "2"), opaqueAt("/a/d"), fileAt("/a/d/y", "2"), whiteAt("/a/f")),
		layerOf(dirAt("/a"), whiteAt("/a/e"), dirAt("/a/f"), fileAt("/a/g", "3")),
	}
	for n, names := range [][]string{1: {"b", "c", "d", "e"}, 2: {"d", "e", "f"}, 3: {"b", "d", "e"}, 4: {"b", "d", "f", "g"}} {
		if n > 0 {
			wantNames(t, fmt.Sprint(n, " layers"), layers[:n], "/a", names...)
			wantNames(t, fmt.Sprint(n, " layers"), layers[:n], "/", "a")
			wantOver(t, layers[:n])
		}
	}
	wantSeen(t, "there, white and there again", layers, "/a/b", 2, fileAt("/a/b", "2"))
	wantSeen(t, "there and white", layers, "/a/c", 0)
	wantSeen(t, "there and opaque", layers, "/a/d", 2, dirAt("/a/d"))
	wantSeen(t, "hidden by an opaque one", layers, "/a/d/x", 0)
	wantSeen(t, "below an opaque one", layers, "/a/d/y", 2, fileAt("/a/d/y", "2"))
	wantSeen(t, "a file, white and a directory", layers, "/a/f", 3, dirAt("/a/f"))
	wantNames(t, "an opaque one", layers, "/a/d", "y")
	wantNames(t, "a directory with nothing", layers, "/a/f")
	wantAnswer(t, "a file", impl.ListOver(layers, "/a/b"), impl.NamesResult{Code: impl.ErrDir})
	wantAnswer(t, "a white", impl.ListOver(layers, "/a/c"), impl.NamesResult{Code: impl.ErrNone})
	wantAnswer(t, "what is hidden", impl.ListOver(layers, "/a/d/x"), impl.NamesResult{Code: impl.ErrNone})
	wantAnswer(t, "the paths", impl.PathsOver(layers), impl.NamesResult{Names: []string{"/a", "/a/b", "/a/d", "/a/d/y", "/a/f", "/a/g"}})
}

// TestFirstLayerThatHides: a list ends with the layer that hides by an opaque entry, and ahead of one that hides by another.
func TestFirstLayerThatHides(t *testing.T) {
	one := layerOf(dirAt("/a"), dirAt("/a/b"), fileAt("/a/b/l", ""))
	two := layerOf(dirAt("/a"), dirAt("/a/b"), fileAt("/a/b/m", ""))
	top := layerOf(dirAt("/a"), dirAt("/a/b"), fileAt("/a/b/t", ""))
	for _, k := range []struct {
		name  string
		layer []impl.Entry
		names []string
	}{
		{"nothing", nil, []string{"l", "m", "t"}},
		{"directories", layerOf(dirAt("/a"), dirAt("/a/b"), fileAt("/a/b/s", "")), []string{"l", "m", "s", "t"}},
		{"an opaque one", layerOf(dirAt("/a"), opaqueAt("/a/b"), fileAt("/a/b/s", "")), []string{"s", "t"}},
		{"an opaque one above", layerOf(opaqueAt("/a"), dirAt("/a/b"), fileAt("/a/b/s", "")), []string{"s", "t"}},
		{"two opaque ones", layerOf(opaqueAt("/a"), opaqueAt("/a/b"), fileAt("/a/b/s", "")), []string{"s", "t"}},
		{"an opaque one above alone", layerOf(opaqueAt("/a"), fileAt("/a/z", "")), []string{"t"}},
		{"a white", layerOf(dirAt("/a"), whiteAt("/a/b")), []string{"t"}},
		{"a white above", layerOf(whiteAt("/a")), []string{"t"}},
		{"a file", layerOf(dirAt("/a"), fileAt("/a/b", "")), []string{"t"}},
		{"a file above", layerOf(fileAt("/a", "")), []string{"t"}},
		{"an opaque one with a white", layerOf(opaqueAt("/a"), whiteAt("/a/b")), []string{"t"}},
		{"an opaque one with a file", layerOf(opaqueAt("/a"), fileAt("/a/b", "")), []string{"t"}},
		{"another directory", layerOf(dirAt("/a"), opaqueAt("/a/bb"), whiteAt("/a/c")), []string{"l", "m", "t"}},
		{"whites of two names", layerOf(dirAt("/a"), dirAt("/a/b"), whiteAt("/a/b/l"), whiteAt("/a/b/m")), []string{"t"}},
		{"a white of a name above it", layerOf(dirAt("/a"), dirAt("/a/b"), whiteAt("/a/b/t")), []string{"l", "m", "t"}},
	} {
		layers := [][]impl.Entry{one, two, k.layer, top}
		wantNames(t, k.name, layers, "/a/b", k.names...)
		wantOver(t, layers)
		layers = [][]impl.Entry{k.layer, one, two, top}
		wantOver(t, layers)
		wantNames(t, k.name+", below all", [][]impl.Entry{layerOf(whiteAt("/a")), one, two, top}, "/a/b", "l", "m", "t")
	}
}

func TestHidesBelowKnown(t *testing.T) {
	layer := layerOf(dirAt("/a"), opaqueAt("/a/b"), dirAt("/a/b/c"), dirAt("/a/d"), whiteAt("/a/e"), fileAt("/a/f", ""), opaqueAt("/ab"), whiteAt("/b"), fileAt("/c", "c"))
	for p, want := range map[string]bool{
		"/a": false, "/a/b": true, "/a/b/c": true, "/a/b/z": true, "/a/d": false, "/a/d/z": false, "/a/e": true, "/a/e/z": true, "/a/f": true, "/a/f/z": true,
		"/a/z": false, "/a/bb": false, "/a/z/z": false, "/ab": true, "/ab/z": true, "/ab/z/z": true, "/b": true, "/b/a": true, "/b/a/d": true, "/c": true, "/c/z/z": true,
		"/z": false, "/z/a/b": false, "/abc": false, "/aa": false, "/bb": false, "/bb/b": false,
		"/": false, "": false, "/a/b/": false, "/b/A": false, "b": false, "/b/abcde": false, "/a/b/c/d": false, "/b/b/b/b": false,
	} {
		if got := impl.HidesBelow(layer, p); got != want || hidesBelowByHand(layer, p) != want {
			t.Errorf("HidesBelow %s: %v", p, got)
		}
		if impl.HidesBelow(nil, p) {
			t.Errorf("nothing hides %s", p)
		}
	}
}

func TestOverOfAllSmall(t *testing.T) {
	layers := rightLayers()
	at := func(i int) []impl.Entry { return layers[i%len(layers)] }
	for i, layer := range layers {
		wantOver(t, [][]impl.Entry{layer})
		wantOver(t, [][]impl.Entry{withOtherBytes(at(i*7 + 3)), layer})
		wantOver(t, [][]impl.Entry{layer, withOtherBytes(at(i*13 + 5))})
		wantOver(t, [][]impl.Entry{at(i*11 + 1), withOtherBytes(at(i*17 + 9)), layer})
		wantOver(t, [][]impl.Entry{at(i*29 + 11), layer, withOtherBytes(at(i*5 + 7)), at(i*3 + 2)})
	}
}

// TestOverOfMoreThanATree: more is seen than a tree has room for, as none is made.
func TestOverOfMoreThanATree(t *testing.T) {
	layers := [][]impl.Entry{numberedFiles("o", 12), numberedFiles("n", 12), numberedFiles("m", 12), numberedFiles("l", 12)}
	wantAnswer(t, "the tree of 48", impl.MergeAll(layers), impl.TreeResult{Code: impl.ErrMany})
	paths := pathsIn(layers[3], layers[2], layers[1], layers[0])
	wantAnswer(t, "48 paths", impl.PathsOver(layers), impl.NamesResult{Names: paths})
	names := slices.Clone(paths)
	for i := range names {
		names[i] = names[i][1:]
	}
	wantNames(t, "48 paths", layers, "/", names...)
	for place, layer := range layers {
		for _, e := range layer {
			wantSeen(t, "48 paths", layers, e.Path, int64(place), e)
		}
	}
	wantOver(t, layers)
	wantOver(t, [][]impl.Entry{fullLayer(12), fullLayer(12), fullLayer(12), fullLayer(12)})
}

// faultyOver: layers with a fault among them, and the code of the first one.
type faultyOver struct {
	name   string
	layers [][]impl.Entry
	code   int64
}

func faultyOvers() []faultyOver {
	var out []faultyOver
	lists, right := faultyLists(), layerOf(dirAt("/a"), fileAt("/a/b", ""))
	for i, f := range lists {
		g := lists[(i*7+3)%len(lists)]
		out = append(out,
			faultyOver{f.name + " alone", [][]impl.Entry{f.layer}, f.code},
			faultyOver{f.name + " first", [][]impl.Entry{f.layer, right}, f.code},
			faultyOver{f.name + " last", [][]impl.Entry{right, f.layer}, f.code},
			faultyOver{f.name + " between", [][]impl.Entry{right, right, f.layer, right}, f.code},
			faultyOver{f.name + " as the fourth", [][]impl.Entry{nil, right, nil, f.layer}, f.code},
			faultyOver{f.name + " ahead of " + g.name, [][]impl.Entry{right, f.layer, g.layer}, f.code},
			faultyOver{"five, with " + f.name, [][]impl.Entry{f.layer, right, right, right, g.layer}, impl.ErrMany},
		)
	}
	for n := 5; n < 9; n++ {
		out = append(out, faultyOver{fmt.Sprint(n, " layers"), slices.Repeat([][]impl.Entry{right}, n), impl.ErrMany})
	}
	return out
}

func wantOverCode(t *testing.T, name string, layers [][]impl.Entry, p string, code int64) {
	t.Helper()
	wantAnswer(t, "LookOver "+name, impl.LookOver(layers, p), impl.LayerResult{Code: code})
	wantAnswer(t, "ListOver "+name, impl.ListOver(layers, p), impl.NamesResult{Code: code})
	wantAnswer(t, "PlaceOver "+name, impl.PlaceOver(layers, p), impl.IntResult{Code: code})
}

func TestFaultsOfLayersComeFirst(t *testing.T) {
	for i, f := range faultyOvers() {
		wantAnswer(t, "PathsOver "+f.name, impl.PathsOver(f.layers), impl.NamesResult{Code: f.code})
		wantAnswer(t, "ListOver / "+f.name, impl.ListOver(f.layers, "/"), impl.NamesResult{Code: f.code})
		for _, p := range []string{"/a", "/a/b", "/q", "", "/", "/a/", "/abcde", "/a/b/c/d"}[i%3:] {
			wantOverCode(t, f.name+" of "+p, f.layers, p, f.code)
		}
	}
	for _, f := range faultyLayers() {
		for _, p := range []string{"/a", "/a/b", "/b", "/z", "/", "", "/abcde"} {
			if impl.HidesBelow(f.layer, p) {
				t.Errorf("HidesBelow of %s and %q", f.name, p)
			}
		}
	}
	// The same entries without the fault hide, so that the false is the fault's.
	hiding := layerOf(whiteAt("/a"))
	for _, e := range layerOf(impl.Entry{}, whiteAt("/a"), fileAt("/b/c", ""), impl.Entry{Path: "/b", Kind: 3, Size: 1}) {
		if !impl.HidesBelow(hiding, "/a") || impl.HidesBelow(append(slices.Clone(hiding), e), "/a") {
			t.Errorf("HidesBelow with %s", told(e))
		}
	}
	if impl.HidesBelow(append(numberedFiles("a", 12), whiteAt("/b")), "/b") || !impl.HidesBelow(append(numberedFiles("a", 11), whiteAt("/b")), "/b") {
		t.Error("HidesBelow of 13 entries, or of 12")
	}
}

func TestFaultsOfPathsThroughLayers(t *testing.T) {
	for _, f := range faultyPaths() {
		for _, layers := range [][][]impl.Entry{nil, {nil}, {fullLayer(12)}, {layerOf(opaqueAt("/a"), whiteAt("/a/b")), layerOf(dirAt("/a"))}} {
			wantAnswer(t, "LookOver "+shortText(f.path), impl.LookOver(layers, f.path), impl.LayerResult{Code: f.code})
			wantAnswer(t, "PlaceOver "+shortText(f.path), impl.PlaceOver(layers, f.path), impl.IntResult{Code: f.code})
			if f.path != "/" {
				wantAnswer(t, "ListOver "+shortText(f.path), impl.ListOver(layers, f.path), impl.NamesResult{Code: f.code})
			}
			for _, layer := range append(layers, layerOf(whiteAt("/a"), fileAt("/b", ""), opaqueAt("/c"))) {
				if impl.HidesBelow(layer, f.path) {
					t.Errorf("HidesBelow of %s and %s", told(layer), shortText(f.path))
				}
			}
		}
	}
}

// TestManyLayersSeen looks through long layers, beside what is worked out apart from the program.
func TestManyLayersSeen(t *testing.T) {
	spread := uint32(47)
	next := func(n int) int {
		spread = spread*1664525 + 1013904223
		return int(spread>>8) % n
	}
	paths := textsOver([]string{"/a", "/b", "/ab", "/c"}, "", 3)
	slices.Sort(paths)
	kinds := []int{0, 0, 1, 1, 1, 1, 2, 3}
	layer := func() []impl.Entry {
		var out []impl.Entry
		wanted := next(13)
		for at, left := next(len(paths)), len(paths); len(out) < wanted && left > 0; at, left = at+1, left-1 {
			p := paths[at%len(paths)]
			if parentIsThere(out, p) && next(3) > 0 {
				out = sortedLayer(layerByPath(append(out, kindsAt(p)[kinds[next(len(kinds))]])))
			}
		}
		return out
	}
	codes := map[string]int{}
	for range 300 {
		layers := [][]impl.Entry{layer(), withOtherBytes(layer()), layer(), withOtherBytes(layer())}[:1+next(4)]
		wantOver(t, layers)
		for _, p := range paths {
			codes[fmt.Sprint("look ", impl.LookOver(layers, p).Code)]++
			codes[fmt.Sprint("list ", impl.ListOver(layers, p).Code)]++
		}
	}
	for _, code := range []string{"look 0", "look 4", "list 0", "list 4", "list 9"} {
		if codes[code] < 50 {
			t.Errorf("%s came %d times alone", code, codes[code])
		}
	}
}
