package tests

import (
	"cmp"
	"fmt"
	"math"
	"path"
	"slices"
	"strings"
	"testing"

	"loop.example/g00299/impl"
)

// fullTree: n entries, files and directories at the top and below one another; the names of the last ones rise.
func fullTree(n int) []impl.Entry {
	tree := layerOf(dirAt("/a"), dirAt("/a/b"), fileAt("/a/b/c", "c"), dirAt("/a/d"), fileAt("/a/e", ""), fileAt("/ab", "bytes of three chunks"), dirAt("/b"))
	for i := len(tree); i < n; i++ {
		tree = append(tree, fileAt("/b/"+string(rune('a'+i/26))+string(rune('a'+i%26)), fmt.Sprint("bytes of ", i)))
	}
	return tree[:n]
}

func treeFaultByHand(tree []impl.Entry) int64 {
	if len(tree) > 40 {
		return impl.ErrMany
	}
	for _, e := range tree {
		if e.Kind != 1 && e.Kind != 2 {
			return impl.ErrForm
		}
	}
	for i, e := range tree {
		if code := entryFaultByHand(e); code != impl.OK {
			return code
		}
		if i > 0 && strings.Compare(tree[i-1].Path, e.Path) != -1 {
			return impl.ErrForm
		}
		if !parentIsThere(tree, e.Path) {
			return impl.ErrDir
		}
	}
	return impl.OK
}

func statByHand(tree []impl.Entry, p string) impl.LayerResult {
	if code := cmp.Or(treeFaultByHand(tree), pathFaultByLibrary(p)); code != impl.OK {
		return impl.LayerResult{Code: code}
	}
	if e, there := layerByPath(tree)[p]; there {
		return impl.LayerResult{Layer: layerOf(e)}
	}
	return impl.LayerResult{Code: impl.ErrNone}
}

func listByHand(tree []impl.Entry, p string) impl.NamesResult {
	if code := treeFaultByHand(tree); code != impl.OK {
		return impl.NamesResult{Code: code}
	}
	if p != "/" {
		if at := statByHand(tree, p); at.Code != impl.OK {
			return impl.NamesResult{Code: at.Code}
		}
		if !dirsOf(tree)[p] {
			return impl.NamesResult{Code: impl.ErrDir}
		}
	}
	var names []string
	for _, e := range tree {
		if path.Dir(e.Path) == p {
			names = append(names, path.Base(e.Path))
		}
	}
	slices.Sort(names)
	return impl.NamesResult{Names: names}
}

func homeByHand(tree []impl.Entry, p string) int64 {
	if parentIsThere(tree, p) {
		return impl.OK
	}
	if _, there := layerByPath(tree)[path.Dir(p)]; there {
		return impl.ErrDir
	}
	return impl.ErrNone
}

// putInTree: the entry is there behind it, unless there are too many already.
func putInTree(tree []impl.Entry, e impl.Entry) impl.TreeResult {
	entries := layerByPath(tree)
	entries[e.Path] = e
	if len(entries) > 40 {
		return impl.TreeResult{Reply: impl.ErrMany, Tree: tree}
	}
	return impl.TreeResult{Tree: sortedLayer(entries)}
}

func writeByHand(tree []impl.Entry, p string, data []byte) impl.TreeResult {
	if code := cmp.Or(treeFaultByHand(tree), pathFaultByLibrary(p)); code != impl.OK {
		return impl.TreeResult{Code: code}
	}
	if len(data) > 24 {
		return impl.TreeResult{Code: impl.ErrMany}
	}
	if reply := homeByHand(tree, p); reply != impl.OK {
		return impl.TreeResult{Reply: reply, Tree: tree}
	}
	if dirsOf(tree)[p] {
		return impl.TreeResult{Reply: impl.ErrDir, Tree: tree}
	}
	return putInTree(tree, fileAt(p, string(data)))
}

func makeByHand(tree []impl.Entry, p string) impl.TreeResult {
	if code := cmp.Or(treeFaultByHand(tree), pathFaultByLibrary(p)); code != impl.OK {
		return impl.TreeResult{Code: code}
	}
	if reply := homeByHand(tree, p); reply != impl.OK {
		return impl.TreeResult{Reply: reply, Tree: tree}
	}
	if _, there := layerByPath(tree)[p]; there {
		return impl.TreeResult{Reply: impl.ErrTaken, Tree: tree}
	}
	return putInTree(tree, dirAt(p))
}

func removeByHand(tree []impl.Entry, p string) impl.TreeResult {
	if code := cmp.Or(treeFaultByHand(tree), pathFaultByLibrary(p)); code != impl.OK {
		return impl.TreeResult{Code: code}
	}
	entries := layerByPath(tree)
	if _, there := entries[p]; !there {
		return impl.TreeResult{Reply: impl.ErrNone, Tree: tree}
	}
	before := len(entries)
	dropFrom(entries, p)
	if len(entries) < before-1 {
		return impl.TreeResult{Reply: impl.ErrForm, Tree: tree}
	}
	return impl.TreeResult{Tree: sortedLayer(entries)}
}

// rightTrees: every tree over the few paths and one more, each of them away, a file or a directory.
func rightTrees() [][]impl.Entry {
	trees := [][]impl.Entry{nil}
	for _, path := range append(fewPaths(), "/b") {
		for _, tree := range trees {
			for _, e := range kindsAt(path)[:2] {
				if parentIsThere(tree, path) {
					trees = append(trees, append(slices.Clone(tree), e))
				}
			}
		}
	}
	return trees
}

// pathsOfTrees: paths of the trees above, and others beside, above and below them.
func pathsOfTrees() []string {
	return append(fewPaths(), "/b", "/b/c", "/b/c/d", "/a/a", "/a/b/a", "/a/b/cc", "/a/bb/c", "/aa", "/ab/c", "/abc", "/z/z/z")
}

func TestTreeBounds(t *testing.T) {
	if impl.MaxItems != 40 {
		t.Errorf("MaxItems %d", impl.MaxItems)
	}
	for n := range 41 {
		if code := treeFaultByHand(fullTree(n)); code != impl.OK || len(fullTree(n)) != n {
			t.Errorf("the full tree of %d has the fault %d", n, code)
		}
	}
	for _, tree := range rightTrees() {
		if code := treeFaultByHand(tree); code != impl.OK {
			t.Fatalf("%s has the fault %d", told(tree), code)
		}
	}
}

func TestTreesWithoutFault(t *testing.T) {
	trees := append(rightTrees(), nil, []impl.Entry{})
	for n := range impl.MaxItems + 1 {
		trees = append(trees, fullTree(n))
	}
	var files, dirs []impl.Entry
	for i := range 40 {
		name := "/" + string(rune('a'+i/26)) + string(rune('a'+i%26))
		files, dirs = append(files, fileAt(name, "")), append(dirs, dirAt(name))
	}
	trees = append(trees, files, dirs,
		layerOf(dirAt("/a"), fileAt("/aa", "x"), dirAt("/aaa"), fileAt("/aaaa", "")),
		layerOf(dirAt("/a"), dirAt("/a/z"), fileAt("/a/z/z", "x"), dirAt("/aa"), fileAt("/aa/a", "")),
		layerOf(impl.Entry{Path: "/a", Kind: 2, Chunks: []int64{}}, impl.Entry{Path: "/b", Kind: 1, Chunks: []int64{}}),
	)
	for _, tree := range trees {
		if code := impl.TreeFault(tree); code != impl.OK {
			t.Errorf("TreeFault of %s: %d", told(tree), code)
		}
	}
}

// noTreeKinds: kinds that no entry of a tree has.
func noTreeKinds() []int64 {
	return []int64{3, 4, 0, 5, -1, -2, 256 + 1, 256 + 2, 1<<32 + 1, 1<<32 + 2, math.MinInt64, math.MaxInt64}
}

// faultyTrees: trees with a fault, and the code of the first one in the document's order.
func faultyTrees() []faultyLayer {
	over := append(fullTree(40), fileAt("/z", "z"))
	list := []faultyLayer{
		{"one too many", over, impl.ErrMany},
		{"far too many", slices.Repeat(fullTree(40), 50), impl.ErrMany},
		{"too many, and a white one", append(fullTree(40), whiteAt("/z")), impl.ErrMany},
		{"too many, and no entry", slices.Repeat(layerOf(impl.Entry{}), 41), impl.ErrMany},
		{"too many, and the first one without a parent", append(layerOf(fileAt("/a/b", "")), over[1:]...), impl.ErrMany},
		{"too many of one path", slices.Repeat(layerOf(dirAt("/a")), 41), impl.ErrMany},
		{"forty of one path", slices.Repeat(layerOf(dirAt("/a")), 40), impl.ErrForm},
		{"forty of which the last one falls", append(fullTree(39), fileAt("/a/z", "")), impl.ErrForm},
		{"forty of which the last one has no parent", append(fullTree(39), fileAt("/z/z", "")), impl.ErrDir},
		{"forty of which the last one is below a file", append(fullTree(39), fileAt("/b/bm/z", "")), impl.ErrDir},
		{"forty of which the last one has no size", append(fullTree(39), impl.Entry{Path: "/z", Kind: 1, Size: 25}), impl.ErrRange},
		{"below a white one", layerOf(whiteAt("/a"), fileAt("/a/b", "")), impl.ErrForm},
		{"below an opaque one", layerOf(opaqueAt("/a"), fileAt("/a/b", "")), impl.ErrForm},
	}
	for _, kind := range noTreeKinds() {
		other := func(path string) impl.Entry { return impl.Entry{Path: path, Kind: kind} }
		withBytes := impl.Entry{Path: "/z", Kind: kind, Size: 1, Chunks: []int64{7}}
		for name, tree := range map[string][]impl.Entry{
			"alone":                        layerOf(other("/a")),
			"with bytes":                   layerOf(withBytes),
			"first":                        layerOf(other("/a"), dirAt("/b"), fileAt("/b/c", "x")),
			"last of forty":                append(fullTree(39), other("/z")),
			"with no path":                 layerOf(other("")),
			"with names that are too many": layerOf(other("/a/b/c/d")),
			"with no digest":               layerOf(impl.Entry{Path: "/a", Kind: kind, Size: 1, Chunks: []int64{-1}}),
			"behind no path":               layerOf(dirAt("a"), other("/z")),
			"behind a name too long":       layerOf(dirAt("/abcde"), other("/z")),
			"behind no size":               layerOf(impl.Entry{Path: "/a", Kind: 1, Size: 25}, other("/z")),
			"behind no digest":             layerOf(impl.Entry{Path: "/a", Kind: 1, Size: 1, Chunks: []int64{-1}}, other("/z")),
			"behind one without a parent":  layerOf(fileAt("/a/b", ""), other("/z")),
			"behind one below a file":      layerOf(fileAt("/a", ""), fileAt("/a/b", ""), other("/z")),
			"behind 38 and no size":        slices.Concat(fullTree(38), layerOf(impl.Entry{Path: "/y", Kind: 1, Size: -1}, other("/z"))),
			"without a parent":             layerOf(other("/a/b")),
			"ahead of one that falls":      layerOf(other("/b"), fileAt("/a", "")),
		} {
			list = append(list, faultyLayer{fmt.Sprintf("kind %d %s", kind, name), tree, impl.ErrForm})
		}
	}
	for _, f := range faultyLayers() {
		if code := treeFaultByHand(f.layer); code == f.code && len(f.layer) <= 12 {
			list = append(list, f)
		}
	}
	return list
}

func TestTreeFault(t *testing.T) {
	codes := map[int64]int{}
	for _, f := range faultyTrees() {
		if code := impl.TreeFault(f.layer); code != f.code {
			t.Errorf("%s: %d, not %d", f.name, code, f.code)
		}
		if want := treeFaultByHand(f.layer); want != f.code {
			t.Errorf("%s: the test itself says %d and %d", f.name, want, f.code)
		}
		codes[f.code]++
	}
	for _, code := range []int64{impl.ErrForm, impl.ErrMany, impl.ErrRange, impl.ErrText, impl.ErrDir} {
		if codes[code] < 4 {
			t.Errorf("code %d stands %d times alone", code, codes[code])
		}
	}
}

// TestTreeFaultOfAllSmallTrees: up to three entries in any order, with and without faults of their own.
func TestTreeFaultOfAllSmallTrees(t *testing.T) {
	pool := layerOf(impl.Entry{}, impl.Entry{Path: "/a", Kind: 1, Size: 25}, impl.Entry{Path: "/a/b", Kind: 2, Size: 1}, impl.Entry{Path: "/abcde", Kind: 2}, whiteAt("/a"), opaqueAt("/a"), whiteAt("/ab"), opaqueAt("/ab"))
	for _, path := range fewPaths() {
		pool = append(pool, kindsAt(path)[:2]...)
	}
	trees := [][]impl.Entry{nil}
	for at := 0; len(trees[at]) < 3; at++ {
		for _, e := range pool {
			trees = append(trees, append(slices.Clone(trees[at]), e))
		}
	}
	for _, tree := range trees {
		if code, want := impl.TreeFault(tree), treeFaultByHand(tree); code != want {
			t.Fatalf("TreeFault of %s: %d, not %d", told(tree), code, want)
		}
	}
}

// TestFaultOfTheTreeComesFirst hands each tree to each function, with other arguments that are right and that are wrong.
func TestFaultOfTheTreeComesFirst(t *testing.T) {
	for _, f := range faultyTrees() {
		for _, path := range []string{"/a", "/a/b", "/b", "/z/z", "", "/", "/abcde", "/a/b/c/d"} {
			wantAnswer(t, "StatTree: "+f.name, impl.StatTree(f.layer, path), impl.LayerResult{Code: f.code})
			wantAnswer(t, "ListTree: "+f.name, impl.ListTree(f.layer, path), impl.NamesResult{Code: f.code})
			wantAnswer(t, "MakeDir: "+f.name, impl.MakeDir(f.layer, path), impl.TreeResult{Code: f.code})
			wantAnswer(t, "RemoveTree: "+f.name, impl.RemoveTree(f.layer, path), impl.TreeResult{Code: f.code})
			for _, n := range []int{0, 5, impl.MaxBytes + 1} {
				wantAnswer(t, "WriteTree: "+f.name, impl.WriteTree(f.layer, path, countedBytes(n)), impl.TreeResult{Code: f.code})
			}
		}
		wantAnswer(t, "TreeText: "+f.name, impl.TreeText(f.layer), impl.TextResult{Code: f.code})
	}
}

// TestFaultOfThePathInTrees: "/" and no path at all are among them; it comes ahead of too many bytes, and of any Reply.
func TestFaultOfThePathInTrees(t *testing.T) {
	for _, tree := range [][]impl.Entry{nil, layerOf(dirAt("/a"), fileAt("/a/b", "x")), layerOf(fileAt("/a", "x")), fullTree(40)} {
		for _, f := range faultyPaths() {
			name := shortText(f.path)
			wantAnswer(t, "StatTree "+name, impl.StatTree(tree, f.path), impl.LayerResult{Code: f.code})
			wantAnswer(t, "MakeDir "+name, impl.MakeDir(tree, f.path), impl.TreeResult{Code: f.code})
			wantAnswer(t, "RemoveTree "+name, impl.RemoveTree(tree, f.path), impl.TreeResult{Code: f.code})
			for _, n := range []int{0, 5, impl.MaxBytes, impl.MaxBytes + 1} {
				wantAnswer(t, "WriteTree "+name, impl.WriteTree(tree, f.path, countedBytes(n)), impl.TreeResult{Code: f.code})
			}
			if f.path != "/" {
				wantAnswer(t, "ListTree "+name, impl.ListTree(tree, f.path), impl.NamesResult{Code: f.code})
			}
		}
	}
}

func TestTopAndNoPathAtAll(t *testing.T) {
	tree := layerOf(dirAt("/a"), fileAt("/a/b", "x"), fileAt("/c", ""))
	for _, path := range []string{"/", ""} {
		wantAnswer(t, "StatTree", impl.StatTree(tree, path), impl.LayerResult{Code: impl.ErrText})
		wantAnswer(t, "WriteTree", impl.WriteTree(tree, path, nil), impl.TreeResult{Code: impl.ErrText})
		wantAnswer(t, "MakeDir", impl.MakeDir(tree, path), impl.TreeResult{Code: impl.ErrText})
		wantAnswer(t, "RemoveTree", impl.RemoveTree(tree, path), impl.TreeResult{Code: impl.ErrText})
	}
	wantAnswer(t, "ListTree of no path", impl.ListTree(tree, ""), impl.NamesResult{Code: impl.ErrText})
	wantAnswer(t, "ListTree of the top", impl.ListTree(tree, "/"), impl.NamesResult{Names: []string{"a", "c"}})
}

func TestStatTree(t *testing.T) {
	for _, tree := range rightTrees() {
		for _, path := range pathsOfTrees() {
			wantAnswer(t, "StatTree "+path+" of "+told(tree), impl.StatTree(tree, path), statByHand(tree, path))
		}
	}
	for n := range 41 {
		for _, e := range fullTree(n) {
			wantAnswer(t, "StatTree "+e.Path, impl.StatTree(fullTree(n), e.Path), impl.LayerResult{Layer: layerOf(e)})
		}
		wantAnswer(t, "StatTree where there is none", impl.StatTree(fullTree(n), "/zz"), impl.LayerResult{Code: impl.ErrNone})
	}
}

func TestListTreeKnown(t *testing.T) {
	tree := layerOf(dirAt("/a"), dirAt("/a/b"), fileAt("/a/b/c", "x"), dirAt("/a/b/d"), fileAt("/a/bb", ""), dirAt("/ab"), fileAt("/ab/z", ""), dirAt("/b"), fileAt("/c", "y"))
	known := []struct {
		path   string
		answer impl.NamesResult
	}{
		{"/", impl.NamesResult{Names: []string{"a", "ab", "b", "c"}}},
		{"/a", impl.NamesResult{Names: []string{"b", "bb"}}},
		{"/a/b", impl.NamesResult{Names: []string{"c", "d"}}},
		{"/a/b/d", impl.NamesResult{}},
		{"/ab", impl.NamesResult{Names: []string{"z"}}},
		{"/b", impl.NamesResult{}},
		{"/a/b/c", impl.NamesResult{Code: impl.ErrDir}},
		{"/a/bb", impl.NamesResult{Code: impl.ErrDir}},
		{"/c", impl.NamesResult{Code: impl.ErrDir}},
		{"/d", impl.NamesResult{Code: impl.ErrNone}},
		{"/c/d", impl.NamesResult{Code: impl.ErrNone}},
		{"/abc", impl.NamesResult{Code: impl.ErrNone}},
		{"/a/b/c/d", impl.NamesResult{Code: impl.ErrMany}},
		{"/a/", impl.NamesResult{Code: impl.ErrText}},
		{"//", impl.NamesResult{Code: impl.ErrText}},
	}
	for _, k := range known {
		wantAnswer(t, "ListTree "+k.path, impl.ListTree(tree, k.path), k.answer)
	}
	for _, none := range [][]impl.Entry{nil, {}} {
		wantAnswer(t, "ListTree / of nothing", impl.ListTree(none, "/"), impl.NamesResult{})
		wantAnswer(t, "ListTree /a of nothing", impl.ListTree(none, "/a"), impl.NamesResult{Code: impl.ErrNone})
	}
}

func TestListTreeTellsJustWhatHasItAsParent(t *testing.T) {
	for _, tree := range rightTrees() {
		for _, path := range append(pathsOfTrees(), "/") {
			wantAnswer(t, "ListTree "+path+" of "+told(tree), impl.ListTree(tree, path), listByHand(tree, path))
		}
	}
	for n := range 41 {
		tree := fullTree(n)
		for _, path := range []string{"/", "/a", "/a/b", "/a/d", "/ab", "/b"} {
			wantAnswer(t, "ListTree "+path, impl.ListTree(tree, path), listByHand(tree, path))
		}
		told := 0
		for dir := range dirsOf(tree) {
			told += len(impl.ListTree(tree, dir).Names)
		}
		if told += len(impl.ListTree(tree, "/").Names); told != n {
			t.Errorf("of %d entries %d are told", n, told)
		}
	}
}

// wantStays asks the promise: what is not of the path is there behind a call as ahead of it.
func wantStays(t *testing.T, name string, before []impl.Entry, after []impl.Entry, path string) {
	t.Helper()
	if code := impl.TreeFault(after); code != impl.OK {
		t.Errorf("%s leaves the fault %d", name, code)
	}
	others := func(e impl.Entry) bool { return e.Path == path }
	if a, b := slices.DeleteFunc(slices.Clone(before), others), slices.DeleteFunc(slices.Clone(after), others); told(a) != told(b) {
		t.Errorf("%s turns %s into %s", name, told(a), told(b))
	}
}

func wantWrite(t *testing.T, tree []impl.Entry, path string, data string) {
	t.Helper()
	name := fmt.Sprintf("WriteTree %s %q to %s", path, data, told(tree))
	got := impl.WriteTree(tree, path, []byte(data))
	wantAnswer(t, name, got, writeByHand(tree, path, []byte(data)))
	if got.Code != impl.OK || got.Reply != impl.OK {
		return
	}
	wantAnswer(t, name+": what is written", impl.StatTree(got.Tree, path), impl.LayerResult{Layer: layerOf(fileAt(path, data))})
	wantStays(t, name, tree, got.Tree, path)
}

func wantMake(t *testing.T, tree []impl.Entry, path string) {
	t.Helper()
	name := "MakeDir " + path + " in " + told(tree)
	got := impl.MakeDir(tree, path)
	wantAnswer(t, name, got, makeByHand(tree, path))
	if got.Code != impl.OK || got.Reply != impl.OK {
		return
	}
	wantAnswer(t, name+": what is made", impl.StatTree(got.Tree, path), impl.LayerResult{Layer: layerOf(dirAt(path))})
	wantAnswer(t, name+": what it has", impl.ListTree(got.Tree, path), impl.NamesResult{})
	wantStays(t, name, tree, got.Tree, path)
}

func wantRemove(t *testing.T, tree []impl.Entry, path string) {
	t.Helper()
	name := "RemoveTree " + path + " from " + told(tree)
	got := impl.RemoveTree(tree, path)
	wantAnswer(t, name, got, removeByHand(tree, path))
	if got.Code != impl.OK || got.Reply != impl.OK {
		return
	}
	wantAnswer(t, name+": what is gone", impl.StatTree(got.Tree, path), impl.LayerResult{Code: impl.ErrNone})
	wantStays(t, name, tree, got.Tree, path)
}

func TestWhatIsMadeIsThereAndWhatIsRemovedIsNot(t *testing.T) {
	for _, tree := range rightTrees() {
		for _, path := range pathsOfTrees() {
			wantWrite(t, tree, path, "new")
			wantWrite(t, tree, path, "")
			wantMake(t, tree, path)
			wantRemove(t, tree, path)
		}
	}
}

func TestFilesOfAllSizes(t *testing.T) {
	trees := [][]impl.Entry{nil, layerOf(dirAt("/a")), layerOf(dirAt("/a"), fileAt("/a/b", "old bytes, of two"), fileAt("/c", "c")), fullTree(40)}
	for _, tree := range trees {
		for _, path := range []string{"/c", "/a", "/a/b", "/a/b/c", "/z/z", "/a/e", "/ab"} {
			for n := range impl.MaxBytes + 1 {
				wantWrite(t, tree, path, string(countedBytes(n)))
			}
			wantAnswer(t, "WriteTree of nil", impl.WriteTree(tree, path, nil), writeByHand(tree, path, nil))
			for _, n := range []int{impl.MaxBytes + 1, impl.MaxBytes + 8, 256, 1 << 16} {
				wantAnswer(t, "WriteTree of too many", impl.WriteTree(tree, path, countedBytes(n)), impl.TreeResult{Code: impl.ErrMany})
			}
		}
	}
}

// treeStep: what one call comes to; the tree stays with a Reply.
type treeStep struct {
	name  string
	got   impl.TreeResult
	reply int64
}

func wantReplies(t *testing.T, tree []impl.Entry, steps []treeStep) {
	t.Helper()
	for _, s := range steps {
		wantAnswer(t, s.name, s.got, impl.TreeResult{Reply: s.reply, Tree: tree})
	}
}

func TestTheHome(t *testing.T) {
	tree := layerOf(dirAt("/a"), fileAt("/a/b", "x"), fileAt("/c", ""), dirAt("/cc"))
	x := []byte("x")
	wantReplies(t, tree, []treeStep{
		{"write below nothing", impl.WriteTree(tree, "/d/e", x), impl.ErrNone},
		{"write two below nothing", impl.WriteTree(tree, "/d/e/f", x), impl.ErrNone},
		{"write two below a directory", impl.WriteTree(tree, "/a/c/d", x), impl.ErrNone},
		{"write two below a file", impl.WriteTree(tree, "/c/d/e", x), impl.ErrNone},
		{"write below a file", impl.WriteTree(tree, "/c/d", x), impl.ErrDir},
		{"write below a file in a directory", impl.WriteTree(tree, "/a/b/c", x), impl.ErrDir},
		{"make below nothing", impl.MakeDir(tree, "/d/e"), impl.ErrNone},
		{"make two below nothing", impl.MakeDir(tree, "/d/e/f"), impl.ErrNone},
		{"make two below a directory", impl.MakeDir(tree, "/a/c/d"), impl.ErrNone},
		{"make two below a file", impl.MakeDir(tree, "/c/d/e"), impl.ErrNone},
		{"make below a file", impl.MakeDir(tree, "/c/d"), impl.ErrDir},
		{"make below a file in a directory", impl.MakeDir(tree, "/a/b/c"), impl.ErrDir},
		{"remove below nothing", impl.RemoveTree(tree, "/d/e"), impl.ErrNone},
		{"remove below a file", impl.RemoveTree(tree, "/c/d"), impl.ErrNone},
		{"remove below an empty directory", impl.RemoveTree(tree, "/cc/d"), impl.ErrNone},
	})
	wantAnswer(t, "a file at the top of nothing", impl.WriteTree(nil, "/b", x), impl.TreeResult{Tree: layerOf(fileAt("/b", "x"))})
	wantAnswer(t, "a directory at the top of nothing", impl.MakeDir(nil, "/b"), impl.TreeResult{Tree: layerOf(dirAt("/b"))})
	wantAnswer(t, "below nothing", impl.MakeDir(nil, "/b/c"), impl.TreeResult{Reply: impl.ErrNone})
	wantAnswer(t, "a file at the top", impl.WriteTree(tree, "/b", x), impl.TreeResult{Tree: slices.Concat(tree[:2], layerOf(fileAt("/b", "x")), tree[2:])})
	wantAnswer(t, "a directory at the top", impl.MakeDir(tree, "/z"), impl.TreeResult{Tree: slices.Concat(tree, layerOf(dirAt("/z")))})
}

func TestPathThatIsThereAlready(t *testing.T) {
	tree := layerOf(dirAt("/a"), dirAt("/a/b"), fileAt("/a/b/c", "old"), fileAt("/ab", "old"), dirAt("/b"))
	x := []byte("x")
	wantReplies(t, tree, []treeStep{
		{"write where a directory has something", impl.WriteTree(tree, "/a", x), impl.ErrDir},
		{"write where an empty directory is", impl.WriteTree(tree, "/b", x), impl.ErrDir},
		{"write where a directory is below", impl.WriteTree(tree, "/a/b", nil), impl.ErrDir},
		{"make where a directory has something", impl.MakeDir(tree, "/a"), impl.ErrTaken},
		{"make where an empty directory is", impl.MakeDir(tree, "/b"), impl.ErrTaken},
		{"make where a file is", impl.MakeDir(tree, "/ab"), impl.ErrTaken},
		{"make where a file is below", impl.MakeDir(tree, "/a/b/c"), impl.ErrTaken},
		{"remove a directory that has a directory", impl.RemoveTree(tree, "/a"), impl.ErrForm},
		{"remove a directory that has a file", impl.RemoveTree(tree, "/a/b"), impl.ErrForm},
		{"remove what is not there", impl.RemoveTree(tree, "/c"), impl.ErrNone},
		{"remove what is not there below", impl.RemoveTree(tree, "/a/c"), impl.ErrNone},
		{"remove what a path begins with", impl.RemoveTree(tree, "/abc"), impl.ErrNone},
	})
	wantAnswer(t, "a file written anew", impl.WriteTree(tree, "/ab", []byte("bytes of three chunks")), impl.TreeResult{Tree: slices.Concat(tree[:3], layerOf(fileAt("/ab", "bytes of three chunks")), tree[4:])})
	wantAnswer(t, "a file written anew with no bytes", impl.WriteTree(tree, "/a/b/c", nil), impl.TreeResult{Tree: slices.Concat(tree[:2], layerOf(fileAt("/a/b/c", "")), tree[3:])})
	wantAnswer(t, "a file removed", impl.RemoveTree(tree, "/a/b/c"), impl.TreeResult{Tree: slices.Concat(tree[:2], tree[3:])})
	wantAnswer(t, "an empty directory removed", impl.RemoveTree(tree, "/b"), impl.TreeResult{Tree: tree[:4]})
}

// TestNamesThatBeginAlike: what only begins with a path is not in it.
func TestNamesThatBeginAlike(t *testing.T) {
	for _, tree := range [][]impl.Entry{
		layerOf(fileAt("/a", "x"), fileAt("/aa", "y"), dirAt("/ab"), fileAt("/ab/c", "z")),
		layerOf(dirAt("/a"), fileAt("/aa", "y"), dirAt("/ab"), fileAt("/ab/c", "z")),
	} {
		wantAnswer(t, "RemoveTree", impl.RemoveTree(tree, "/a"), impl.TreeResult{Tree: tree[1:]})
		wantAnswer(t, "RemoveTree", impl.RemoveTree(tree, "/aa"), impl.TreeResult{Tree: slices.Concat(tree[:1], tree[2:])})
		wantAnswer(t, "RemoveTree", impl.RemoveTree(tree, "/ab"), impl.TreeResult{Reply: impl.ErrForm, Tree: tree})
		wantAnswer(t, "ListTree", impl.ListTree(tree, "/ab"), impl.NamesResult{Names: []string{"c"}})
	}
	below := layerOf(dirAt("/a"), fileAt("/a/b", "x"), dirAt("/a/bb"), fileAt("/a/bb/c", "y"))
	wantAnswer(t, "RemoveTree below", impl.RemoveTree(below, "/a/b"), impl.TreeResult{Tree: slices.Concat(below[:1], below[2:])})
}

func TestTreeOfMaxItems(t *testing.T) {
	full := fullTree(40)
	x := []byte("x")
	var steps []treeStep
	for _, path := range []string{"/c", "/z", "/a/a", "/a/b/d", "/a/d/a", "/b/zz", "/aa"} {
		steps = append(steps,
			treeStep{"write a new path " + path, impl.WriteTree(full, path, x), impl.ErrMany},
			treeStep{"make a new path " + path, impl.MakeDir(full, path), impl.ErrMany},
		)
	}
	steps = append(steps,
		treeStep{"write without a home", impl.WriteTree(full, "/z/z", x), impl.ErrNone},
		treeStep{"make without a home", impl.MakeDir(full, "/z/z"), impl.ErrNone},
		treeStep{"write below a file", impl.WriteTree(full, "/ab/z", x), impl.ErrDir},
		treeStep{"make below a file", impl.MakeDir(full, "/ab/z"), impl.ErrDir},
	)
	wantReplies(t, full, steps)
	for i, e := range full {
		wantWrite(t, full, e.Path, "written anew")
		wantRemove(t, full, e.Path)
		wantAnswer(t, "MakeDir "+e.Path, impl.MakeDir(full, e.Path), impl.TreeResult{Reply: impl.ErrTaken, Tree: full})
		if e.Kind == 1 {
			anew := slices.Concat(full[:i], layerOf(fileAt(e.Path, "anew")), full[i+1:])
			wantAnswer(t, "WriteTree "+e.Path, impl.WriteTree(full, e.Path, []byte("anew")), impl.TreeResult{Tree: anew})
		}
	}
	for n := range 41 {
		for _, path := range []string{"/z", "/a/a", "/a/b/b", "/aa", "/b/zz", "/b/b"} {
			wantWrite(t, fullTree(n), path, "x")
			wantMake(t, fullTree(n), path)
		}
	}
	wantAnswer(t, "the last place", impl.MakeDir(full[:39], "/z"), impl.TreeResult{Tree: append(fullTree(39), dirAt("/z"))})
	wantAnswer(t, "the last place", impl.WriteTree(full[:39], "/z", x), impl.TreeResult{Tree: append(fullTree(39), fileAt("/z", "x"))})
}

func TestTreeText(t *testing.T) {
	for _, none := range [][]impl.Entry{nil, {}} {
		wantAnswer(t, "TreeText of nothing", impl.TreeText(none), impl.TextResult{})
	}
	known := layerOf(dirAt("/a"), fileAt("/a/b", ""), fileAt("/c", "a"))
	digest := fmt.Sprintf("%08x", digestByLibrary([]byte("a")))
	wantAnswer(t, "TreeText", impl.TreeText(known), impl.TextResult{Text: "d /a\nf /a/b 0 -\nf /c 1 " + digest + "\n"})
	trees := rightTrees()
	for n := range 41 {
		trees = append(trees, fullTree(n))
	}
	for _, tree := range trees {
		wantAnswer(t, "TreeText", impl.TreeText(tree), impl.TextResult{Text: textByHand(tree)})
	}
}

// TestManyStepsOfTrees goes on from tree to tree, beside what is worked out apart from the program.
func TestManyStepsOfTrees(t *testing.T) {
	spread := uint32(29)
	next := func(n int) int {
		spread = spread*1664525 + 1013904223
		return int(spread>>8) % n
	}
	paths := textsOver([]string{"/a", "/b", "/ab", "/c", "/zzzz"}, "", 3)
	var tree []impl.Entry
	replies := map[int64]int{}
	for step := range 8000 {
		path := paths[next(len(paths))]
		if len(tree) > 0 && next(3) > 0 {
			path = tree[next(len(tree))].Path + []string{"", "/a", "/d"}[next(3)]
		}
		data := countedBytes(next(27))
		var got, want impl.TreeResult
		// It grows for 700 steps, so that it is full for a while, and shrinks for 300.
		switch what, grows := next(10), step%1000 < 700; {
		case what < 2 || grows && what < 5:
			got, want = impl.WriteTree(tree, path, data), writeByHand(tree, path, data)
		case what < 3 || grows && what < 9:
			got, want = impl.MakeDir(tree, path), makeByHand(tree, path)
		default:
			got, want = impl.RemoveTree(tree, path), removeByHand(tree, path)
		}
		if told(got) != told(want) {
			t.Fatalf("%s: %s, not %s", path, told(got), told(want))
		}
		wantAnswer(t, "ListTree "+path, impl.ListTree(tree, path), listByHand(tree, path))
		if got.Code == impl.OK {
			replies[got.Reply]++
			tree = got.Tree
		}
	}
	for _, reply := range []int64{impl.OK, impl.ErrNone, impl.ErrDir, impl.ErrTaken, impl.ErrMany, impl.ErrForm} {
		if replies[reply] < 100 {
			t.Errorf("Reply %d came %d times alone", reply, replies[reply])
		}
	}
}
