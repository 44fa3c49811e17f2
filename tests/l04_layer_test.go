package tests

import (
	"cmp"
	"fmt"
	"maps"
	"math"
	"path"
	"slices"
	"strings"
	"testing"

	"loop.example/g00299/impl"
)

func dirAt(path string) impl.Entry    { return impl.Entry{Path: path, Kind: 2} }
func whiteAt(path string) impl.Entry  { return impl.Entry{Path: path, Kind: 3} }
func opaqueAt(path string) impl.Entry { return impl.Entry{Path: path, Kind: 4} }

// fileAt: the entry of a file with these bytes, made apart from the program.
func fileAt(path string, data string) impl.Entry {
	e := impl.Entry{Path: path, Kind: 1, Size: int64(len(data))}
	for piece := range slices.Chunk([]byte(data), 8) {
		e.Chunks = append(e.Chunks, digestByLibrary(piece))
	}
	return e
}

// kindsAt: an entry of each kind, the file with bytes of its path.
func kindsAt(path string) []impl.Entry {
	return []impl.Entry{fileAt(path, "at "+path), dirAt(path), whiteAt(path), opaqueAt(path)}
}

// fullLayer: n entries, the first one a directory that has some of the others.
func fullLayer(n int) []impl.Entry {
	layer := []impl.Entry{dirAt("/a"), fileAt("/a/b", "b"), opaqueAt("/a/c"), whiteAt("/a/c/d"), fileAt("/a/c/e", "")}
	for i := len(layer); i < n; i++ {
		layer = append(layer, fileAt("/"+string(rune('b'+i)), fmt.Sprint("the bytes of ", i)))
	}
	return layer[:n]
}

// entryFaultByHand works an entry's fault out apart from the program.
func entryFaultByHand(e impl.Entry) int64 {
	if code := pathFaultByLibrary(e.Path); code != impl.OK {
		return code
	}
	if !slices.Contains([]int64{1, 2, 3, 4}, e.Kind) {
		return impl.ErrForm
	}
	if e.Kind != 1 {
		if e.Size != 0 || len(e.Chunks) > 0 {
			return impl.ErrForm
		}
		return impl.OK
	}
	if e.Size < 0 || e.Size > 24 {
		return impl.ErrRange
	}
	chunks := 0
	for left := e.Size; left > 0; left -= 8 {
		chunks++
	}
	if len(e.Chunks) != chunks {
		return impl.ErrForm
	}
	if slices.ContainsFunc(e.Chunks, func(n int64) bool { return n < 0 || n > math.MaxUint32 }) {
		return impl.ErrRange
	}
	return impl.OK
}

// dirsOf: the paths of a layer's directories, opaque or not.
func dirsOf(layer []impl.Entry) map[string]bool {
	dirs := map[string]bool{}
	for _, e := range layer {
		if e.Kind == 2 || e.Kind == 4 {
			dirs[e.Path] = true
		}
	}
	return dirs
}

func parentIsThere(layer []impl.Entry, p string) bool {
	up := path.Dir(p)
	return up == "/" || dirsOf(layer)[up]
}

func layerFaultByHand(layer []impl.Entry) int64 {
	if len(layer) > 12 {
		return impl.ErrMany
	}
	for i, e := range layer {
		if code := entryFaultByHand(e); code != impl.OK {
			return code
		}
		if i > 0 && strings.Compare(layer[i-1].Path, e.Path) != -1 {
			return impl.ErrForm
		}
		if !parentIsThere(layer, e.Path) {
			return impl.ErrDir
		}
	}
	return impl.OK
}

// layerByPath: a layer as a map, so that it has no order of its own.
func layerByPath(layer []impl.Entry) map[string]impl.Entry {
	entries := map[string]impl.Entry{}
	for _, e := range layer {
		entries[e.Path] = e
	}
	return entries
}

func dropFrom(entries map[string]impl.Entry, p string) {
	maps.DeleteFunc(entries, func(other string, _ impl.Entry) bool {
		return other == p || strings.HasPrefix(other, p+"/")
	})
}

func sortedLayer(entries map[string]impl.Entry) []impl.Entry {
	return slices.SortedFunc(maps.Values(entries), func(a, b impl.Entry) int { return cmp.Compare(a.Path, b.Path) })
}

// putByHand: what PutEntry has to answer.
func putByHand(layer []impl.Entry, e impl.Entry) impl.LayerResult {
	if code := cmp.Or(layerFaultByHand(layer), entryFaultByHand(e)); code != impl.OK {
		return impl.LayerResult{Code: code}
	}
	if !parentIsThere(layer, e.Path) {
		return impl.LayerResult{Code: impl.ErrDir}
	}
	entries := layerByPath(layer)
	if e.Kind == 1 || e.Kind == 3 {
		dropFrom(entries, e.Path)
	}
	entries[e.Path] = e
	if len(entries) > 12 {
		return impl.LayerResult{Code: impl.ErrMany}
	}
	return impl.LayerResult{Layer: sortedLayer(entries)}
}

func dropByHand(layer []impl.Entry, p string) impl.LayerResult {
	if code := cmp.Or(layerFaultByHand(layer), pathFaultByLibrary(p)); code != impl.OK {
		return impl.LayerResult{Code: code}
	}
	entries := layerByPath(layer)
	dropFrom(entries, p)
	return impl.LayerResult{Layer: sortedLayer(entries)}
}

func atByHand(layer []impl.Entry, p string) impl.LayerResult {
	if code := cmp.Or(layerFaultByHand(layer), pathFaultByLibrary(p)); code != impl.OK {
		return impl.LayerResult{Code: code}
	}
	if e, there := layerByPath(layer)[p]; there {
		return impl.LayerResult{Layer: []impl.Entry{e}}
	}
	return impl.LayerResult{Code: impl.ErrNone}
}

// fewPaths: paths below one another, and one whose name begins with another one's in two depths.
func fewPaths() []string {
	return []string{"/a", "/a/b", "/a/b/c", "/a/bb", "/ab"}
}

// rightLayers: every layer without a fault over the few paths, each of them away or of one of the kinds.
func rightLayers() [][]impl.Entry {
	layers := [][]impl.Entry{nil}
	for _, path := range fewPaths() {
		for _, layer := range layers {
			for _, e := range kindsAt(path) {
				if parentIsThere(layer, path) {
					layers = append(layers, append(slices.Clone(layer), e))
				}
			}
		}
	}
	return layers
}

func TestLayerBounds(t *testing.T) {
	kinds := []int64{impl.EntryFile, impl.EntryDir, impl.EntryWhite, impl.EntryOpaque}
	if !slices.Equal(kinds, []int64{1, 2, 3, 4}) || impl.MaxEntries != 12 {
		t.Errorf("kinds %v, MaxEntries %d", kinds, impl.MaxEntries)
	}
	for n := range 13 {
		if code := layerFaultByHand(fullLayer(n)); code != impl.OK || len(fullLayer(n)) != n {
			t.Errorf("the full layer of %d has the fault %d", n, code)
		}
	}
	for _, layer := range rightLayers() {
		if code := layerFaultByHand(layer); code != impl.OK {
			t.Fatalf("%s has the fault %d", told(layer), code)
		}
	}
}

func TestEntriesWithoutFault(t *testing.T) {
	var entries []impl.Entry
	for _, path := range []string{"/a", "/z", "/abcd", "/a/b", "/a/b/c", "/abcd/efgh/wxyz"} {
		entries = append(entries, kindsAt(path)...)
		for size := range impl.MaxBytes + 1 {
			entries = append(entries, fileAt(path, string(countedBytes(size))))
		}
	}
	entries = append(entries,
		impl.Entry{Path: "/a", Kind: 1, Chunks: []int64{}}, impl.Entry{Path: "/a", Kind: 2, Chunks: []int64{}},
		impl.Entry{Path: "/a", Kind: 1, Size: 1, Chunks: []int64{0}}, impl.Entry{Path: "/a", Kind: 1, Size: 8, Chunks: []int64{math.MaxUint32}},
		impl.Entry{Path: "/a", Kind: 1, Size: 24, Chunks: []int64{math.MaxUint32, 0, 0}},
	)
	for _, e := range entries {
		if code := impl.EntryFault(e); code != impl.OK {
			t.Errorf("EntryFault of %s: %d", told(e), code)
		}
	}
}

// faultyEntry: an entry with a fault, and the code of the first one in the document's order.
type faultyEntry struct {
	name string
	e    impl.Entry
	code int64
}

func faultyEntries() []faultyEntry {
	entry := func(kind, size int64, chunks ...int64) impl.Entry {
		return impl.Entry{Path: "/a", Kind: kind, Size: size, Chunks: chunks}
	}
	list := []faultyEntry{
		{"the zero entry", impl.Entry{}, impl.ErrText},
		{"no path, and no kind", impl.Entry{Path: "/", Kind: 9}, impl.ErrText},
		{"no path, and no size", impl.Entry{Path: "a", Kind: 1, Size: -1}, impl.ErrText},
		{"no path, and no digest", impl.Entry{Path: "/A", Kind: 1, Size: 1, Chunks: []int64{-1}}, impl.ErrText},
		{"a name that is too long, and no kind", impl.Entry{Path: "/abcde"}, impl.ErrMany},
		{"names that are too many, and a directory with a size", impl.Entry{Path: "/a/b/c/d", Kind: 2, Size: 1}, impl.ErrMany},
		{"no kind", entry(0, 0), impl.ErrForm},
		{"a kind above", entry(5, 0), impl.ErrForm},
		{"a kind below", entry(-1, 0), impl.ErrForm},
		{"a kind of more than a byte", entry(256+1, 0), impl.ErrForm},
		{"a kind of more than 32 bits", entry(1<<32+2, 0), impl.ErrForm},
		{"the least kind", entry(math.MinInt64, 0), impl.ErrForm},
		{"the largest kind", entry(math.MaxInt64, 0), impl.ErrForm},
		{"no kind, and no size", entry(0, -1), impl.ErrForm},
		{"no kind, and a file's bytes", entry(5, 1, 7), impl.ErrForm},
		{"no kind, and no digest", entry(0, 1, -1), impl.ErrForm},
		{"a size below", entry(1, -1), impl.ErrRange},
		{"a size above", entry(1, 25, 1, 2, 3), impl.ErrRange},
		{"a size above, and as many chunks", entry(1, 25, 1, 2, 3, 4), impl.ErrRange},
		{"the least size", entry(1, math.MinInt64), impl.ErrRange},
		{"the largest size", entry(1, math.MaxInt64), impl.ErrRange},
		{"a size of more than 32 bits", entry(1, 1<<32+1, 1), impl.ErrRange},
		{"a size of more than a byte", entry(1, 256+1, 1), impl.ErrRange},
		{"a size below, and chunks", entry(1, -8, 1), impl.ErrRange},
		{"a size above, and no digest", entry(1, 25, -1, -1, -1), impl.ErrRange},
		{"too few chunks, and no digest", entry(1, 9, -1), impl.ErrForm},
		{"too many chunks, and no digest", entry(1, 8, -1, 1<<32), impl.ErrForm},
		{"chunks of no bytes, and no digest", entry(1, 0, -1), impl.ErrForm},
		{"far too many chunks", entry(1, 8, make([]int64, 1<<16)...), impl.ErrForm},
	}
	for kind := int64(2); kind <= 4; kind++ {
		for _, size := range []int64{-1, 1, 24, 25, math.MinInt64, math.MaxInt64} {
			list = append(list, faultyEntry{fmt.Sprintf("kind %d with the size %d", kind, size), entry(kind, size), impl.ErrForm})
		}
		for _, chunks := range [][]int64{{0}, {7}, {-1}, {1 << 32}, {1, 2, 3, 4}} {
			list = append(list, faultyEntry{fmt.Sprintf("kind %d with the chunks %v", kind, chunks), entry(kind, 0, chunks...), impl.ErrForm})
		}
		list = append(list, faultyEntry{fmt.Sprintf("kind %d with a file's bytes", kind), entry(kind, 1, 7), impl.ErrForm})
	}
	for _, size := range []int64{0, 1, 7, 8, 9, 15, 16, 17, 23, 24} {
		right := int(size+7) / 8
		list = append(list, faultyEntry{fmt.Sprintf("size %d and a chunk more", size), entry(1, size, make([]int64, right+1)...), impl.ErrForm})
		if right > 0 {
			list = append(list, faultyEntry{fmt.Sprintf("size %d and a chunk fewer", size), entry(1, size, make([]int64, right-1)...), impl.ErrForm})
		}
	}
	for _, n := range noDigests() {
		list = append(list,
			faultyEntry{fmt.Sprintf("%d alone", n), entry(1, 1, n), impl.ErrRange},
			faultyEntry{fmt.Sprintf("%d first", n), entry(1, 24, n, 1, 2), impl.ErrRange},
			faultyEntry{fmt.Sprintf("%d last", n), entry(1, 24, 1, 2, n), impl.ErrRange},
		)
	}
	return list
}

func TestEntryFault(t *testing.T) {
	for _, f := range faultyEntries() {
		if code := impl.EntryFault(f.e); code != f.code {
			t.Errorf("%s: %d, not %d", f.name, code, f.code)
		}
	}
	for _, f := range faultyPaths() {
		for _, e := range kindsAt(f.path) {
			if code := impl.EntryFault(e); code != f.code {
				t.Errorf("EntryFault of %s: %d, not %d", shortText(f.path), code, f.code)
			}
		}
	}
}

func TestEntryFaultOfAllCombinations(t *testing.T) {
	digests := []int64{7, 0, math.MaxUint32, -1, 1 << 32}
	var lists [][]int64
	for n := range 5 {
		lists = append(lists, make([]int64, n))
		for at := range n {
			for _, digest := range digests {
				list := make([]int64, n)
				list[at] = digest
				lists = append(lists, list)
			}
		}
	}
	for _, path := range []string{"/a", "/a/b", "", "/a/", "/abcde"} {
		for kind := int64(-1); kind <= 6; kind++ {
			for size := int64(-2); size <= 26; size++ {
				for _, list := range lists {
					e := impl.Entry{Path: path, Kind: kind, Size: size, Chunks: list}
					if code, want := impl.EntryFault(e), entryFaultByHand(e); code != want {
						t.Fatalf("EntryFault of %s: %d, not %d", told(e), code, want)
					}
				}
			}
		}
	}
}

func TestLayersWithoutFault(t *testing.T) {
	layers := append(rightLayers(), nil, []impl.Entry{})
	for n := range impl.MaxEntries + 1 {
		layers = append(layers, fullLayer(n))
	}
	layers = append(layers,
		[]impl.Entry{dirAt("/a"), fileAt("/aa", "x"), whiteAt("/aaa"), opaqueAt("/aaaa")},
		[]impl.Entry{dirAt("/a"), opaqueAt("/a/b"), fileAt("/a/b/c", "x"), dirAt("/aa"), whiteAt("/aa/a")},
		[]impl.Entry{opaqueAt("/a"), dirAt("/a/z"), fileAt("/a/z/z", "x"), fileAt("/aa", ""), whiteAt("/z")},
	)
	for _, layer := range layers {
		if code := impl.LayerFault(layer); code != impl.OK {
			t.Errorf("LayerFault of %s: %d", told(layer), code)
		}
	}
}

// faultyLayer: a layer with a fault, and the code of the first one in the document's order.
type faultyLayer struct {
	name  string
	layer []impl.Entry
	code  int64
}

func layerOf(entries ...impl.Entry) []impl.Entry { return entries }

func faultyLayers() []faultyLayer {
	no := impl.Entry{Path: "/b", Kind: 5}
	over := append(fullLayer(12), fileAt("/z", "z"))
	list := []faultyLayer{
		{"one too many", over, impl.ErrMany},
		{"far too many", slices.Repeat(fullLayer(12), 100), impl.ErrMany},
		{"too many, and no entry", slices.Repeat(layerOf(impl.Entry{}), 13), impl.ErrMany},
		{"too many, and the first one without a parent", append(layerOf(fileAt("/a/b", "")), over[1:]...), impl.ErrMany},
		{"too many of one path", slices.Repeat(layerOf(dirAt("/a")), 13), impl.ErrMany},
		{"twelve of one path", slices.Repeat(layerOf(dirAt("/a")), 12), impl.ErrForm},
		{"one path twice", layerOf(dirAt("/a"), dirAt("/a")), impl.ErrForm},
		{"one path in two kinds", layerOf(dirAt("/a"), whiteAt("/a")), impl.ErrForm},
		{"one path twice below", layerOf(dirAt("/a"), fileAt("/a/b", "x"), fileAt("/a/b", "y")), impl.ErrForm},
		{"falls", layerOf(fileAt("/b", ""), fileAt("/a", "")), impl.ErrForm},
		{"falls at the end", append(fullLayer(11), fileAt("/b", "")), impl.ErrForm},
		{"falls from the longer to its beginning", layerOf(dirAt("/aa"), dirAt("/a")), impl.ErrForm},
		{"falls as the names would rise", layerOf(dirAt("/a"), dirAt("/aa"), fileAt("/a/b", "")), impl.ErrForm},
		{"falls by length alone", layerOf(fileAt("/b", ""), fileAt("/aa", "")), impl.ErrForm},
		{"a parent behind", layerOf(fileAt("/a/b", ""), dirAt("/a")), impl.ErrForm},
		{"falls, then no entry", layerOf(fileAt("/b", ""), fileAt("/a", ""), impl.Entry{}), impl.ErrForm},
		{"falls, and without a parent", layerOf(fileAt("/b", ""), fileAt("/a/b", "")), impl.ErrForm},
		{"falls, and no entry", layerOf(fileAt("/b", ""), impl.Entry{Path: "/a", Kind: 1, Size: 25}), impl.ErrRange},
		{"no kind, then falls", layerOf(no, fileAt("/a", "")), impl.ErrForm},
		{"no size, and without a parent", layerOf(impl.Entry{Path: "/a/b", Kind: 1, Size: -1}), impl.ErrRange},
		{"no parent", layerOf(fileAt("/a/b", "x")), impl.ErrDir},
		{"no parent of one behind", layerOf(dirAt("/a"), fileAt("/b/c", "x")), impl.ErrDir},
		{"no parent of the last one", append(fullLayer(11), fileAt("/z/a", "")), impl.ErrDir},
		{"no parent, but what is above it", layerOf(dirAt("/a"), fileAt("/a/b/c", "x")), impl.ErrDir},
		{"a parent, and nothing above it", layerOf(dirAt("/a/b"), fileAt("/a/b/c", "x")), impl.ErrDir},
		{"a parent whose name begins so", layerOf(dirAt("/a"), fileAt("/ab/c", "x")), impl.ErrDir},
		{"a parent with a longer name", layerOf(fileAt("/a/b", "x"), dirAt("/aa")), impl.ErrDir},
		{"a parent in another one", layerOf(dirAt("/a"), dirAt("/a/b"), fileAt("/b/c", "x")), impl.ErrDir},
		{"no parent, then falls", layerOf(fileAt("/b/c", ""), fileAt("/a", "")), impl.ErrDir},
		{"no parent, then no entry", layerOf(fileAt("/b/c", ""), impl.Entry{}), impl.ErrDir},
		{"no entry, then no parent", layerOf(no, fileAt("/c/d", "")), impl.ErrForm},
	}
	for _, e := range kindsAt("/a/b") {
		list = append(list,
			faultyLayer{fmt.Sprintf("kind %d below a file", e.Kind), layerOf(fileAt("/a", "x"), e), impl.ErrDir},
			faultyLayer{fmt.Sprintf("kind %d below a file of no bytes", e.Kind), layerOf(fileAt("/a", ""), e), impl.ErrDir},
			faultyLayer{fmt.Sprintf("kind %d below a white one", e.Kind), layerOf(whiteAt("/a"), e), impl.ErrDir},
			faultyLayer{fmt.Sprintf("kind %d below nothing", e.Kind), layerOf(e), impl.ErrDir},
		)
	}
	for _, f := range faultyEntries() {
		list = append(list, faultyLayer{f.name, layerOf(f.e), f.code})
	}
	for _, f := range faultyEntries()[:12] {
		list = append(list, faultyLayer{f.name + ", last", append(fullLayer(11), f.e), f.code})
	}
	for _, f := range faultyPaths()[:8] {
		list = append(list, faultyLayer{"the path " + f.path, layerOf(dirAt(f.path)), f.code})
	}
	return list
}

func TestLayerFault(t *testing.T) {
	for _, f := range faultyLayers() {
		if code := impl.LayerFault(f.layer); code != f.code {
			t.Errorf("%s: %d, not %d", f.name, code, f.code)
		}
		if want := layerFaultByHand(f.layer); want != f.code {
			t.Errorf("%s: the test itself says %d and %d", f.name, want, f.code)
		}
	}
}

// TestLayerFaultOfAllSmallLayers: up to three entries in any order, with and without faults of their own.
func TestLayerFaultOfAllSmallLayers(t *testing.T) {
	pool := layerOf(impl.Entry{}, impl.Entry{Path: "/a", Kind: 1, Size: 25}, impl.Entry{Path: "/a/b", Kind: 2, Size: 1}, impl.Entry{Path: "/abcde", Kind: 2})
	for _, path := range fewPaths() {
		pool = append(pool, kindsAt(path)...)
	}
	layers := [][]impl.Entry{nil}
	for at := 0; len(layers[at]) < 3; at++ {
		for _, e := range pool {
			layers = append(layers, append(slices.Clone(layers[at]), e))
		}
	}
	for _, layer := range layers {
		if code, want := impl.LayerFault(layer), layerFaultByHand(layer); code != want {
			t.Fatalf("LayerFault of %s: %d, not %d", told(layer), code, want)
		}
	}
}

// TestFaultOfTheLayerComesFirst hands each layer to each function, with other arguments that are right and that are wrong.
func TestFaultOfTheLayerComesFirst(t *testing.T) {
	paths := []string{"/a", "/a/b", "/b", "", "/", "/abcde", "/a/b/c/d"}
	entries := layerOf(dirAt("/a"), fileAt("/a/b", "x"), whiteAt("/zz/z"), impl.Entry{}, impl.Entry{Path: "/a", Kind: 1, Size: 25})
	for _, f := range faultyLayers() {
		want := impl.LayerResult{Code: f.code}
		for _, path := range paths {
			wantAnswer(t, "EntryAt: "+f.name, impl.EntryAt(f.layer, path), want)
			wantAnswer(t, "DropBelow: "+f.name, impl.DropBelow(f.layer, path), want)
		}
		for _, e := range append(entries, f.layer[:min(2, len(f.layer))]...) {
			wantAnswer(t, "PutEntry: "+f.name, impl.PutEntry(f.layer, e), want)
		}
		wantAnswer(t, "ChunksIn: "+f.name, impl.ChunksIn(f.layer), impl.IntsResult{Code: f.code})
		for _, right := range [][]impl.Entry{nil, layerOf(dirAt("/a")), fullLayer(12)} {
			if impl.SameLayers(f.layer, right) || impl.SameLayers(right, f.layer) {
				t.Errorf("%s is the same as a layer without a fault", f.name)
			}
		}
	}
}

func TestFaultOfThePathComesNext(t *testing.T) {
	for _, f := range faultyPaths() {
		want := impl.LayerResult{Code: f.code}
		for _, layer := range [][]impl.Entry{nil, layerOf(dirAt("/a"), fileAt("/a/b", "x")), fullLayer(12)} {
			wantAnswer(t, "EntryAt "+shortText(f.path), impl.EntryAt(layer, f.path), want)
			wantAnswer(t, "DropBelow "+shortText(f.path), impl.DropBelow(layer, f.path), want)
		}
		for _, n := range []int{0, 5, impl.MaxBytes, impl.MaxBytes + 1} {
			wantAnswer(t, "FileEntry "+shortText(f.path), impl.FileEntry(f.path, countedBytes(n)), want)
		}
	}
}

func TestFileEntryTellsTheDigestsOfItsBytes(t *testing.T) {
	for _, path := range []string{"/a", "/abcd", "/a/b", "/a/b/c", "/zzzz/zzzz/zzzz"} {
		for n := range impl.MaxBytes + 1 {
			for _, data := range [][]byte{countedBytes(n), make([]byte, n), []byte(strings.Repeat("\xff", n))} {
				got := impl.FileEntry(path, data)
				wantAnswer(t, "FileEntry "+path, got, impl.LayerResult{Layer: layerOf(fileAt(path, string(data)))})
				if code := impl.EntryFault(got.Layer[0]); code != impl.OK {
					t.Errorf("the entry of %d bytes has the fault %d", n, code)
				}
				if told(got.Layer[0].Chunks) != told(impl.DigestsOf(data).List) {
					t.Errorf("the entry of %d bytes has other digests", n)
				}
			}
		}
		wantAnswer(t, "FileEntry of nil", impl.FileEntry(path, nil), impl.LayerResult{Layer: layerOf(impl.Entry{Path: path, Kind: 1})})
		for _, n := range []int{impl.MaxBytes + 1, impl.MaxBytes + 8, 256, 1 << 16} {
			wantAnswer(t, "FileEntry of too many", impl.FileEntry(path, countedBytes(n)), impl.LayerResult{Code: impl.ErrMany})
		}
	}
	ends := impl.FileEntry("/a", []byte(bytesOfZero+bytesOfLargest+firstOfTwo)).Layer
	wantAnswer(t, "FileEntry of the outermost digests", ends[0].Chunks, []int64{0, math.MaxUint32, chunkOf(secondOfTwo).Digest})
}

func TestEntryAt(t *testing.T) {
	asked := append(fewPaths(), "/b", "/a/a", "/a/b/a", "/aa", "/abc", "/a/b/cc", "/z/z/z")
	for _, layer := range rightLayers() {
		for _, path := range asked {
			wantAnswer(t, "EntryAt "+path, impl.EntryAt(layer, path), atByHand(layer, path))
		}
	}
	for n := range 13 {
		for _, e := range fullLayer(n) {
			wantAnswer(t, "EntryAt "+e.Path, impl.EntryAt(fullLayer(n), e.Path), impl.LayerResult{Layer: layerOf(e)})
		}
		wantAnswer(t, "EntryAt where there is none", impl.EntryAt(fullLayer(n), "/zz"), impl.LayerResult{Code: impl.ErrNone})
	}
}

// wantPut asks the answer of PutEntry, and what the promise says of it.
func wantPut(t *testing.T, layer []impl.Entry, e impl.Entry) {
	t.Helper()
	got := impl.PutEntry(layer, e)
	wantAnswer(t, "PutEntry "+told(e)+" into "+told(layer), got, putByHand(layer, e))
	if got.Code != impl.OK {
		return
	}
	wantAnswer(t, "what is put", impl.EntryAt(got.Layer, e.Path), impl.LayerResult{Layer: layerOf(e)})
	if code := impl.LayerFault(got.Layer); code != impl.OK {
		t.Errorf("PutEntry %s leaves the fault %d", told(e), code)
	}
	for _, other := range layer {
		if other.Path != e.Path && !strings.HasPrefix(other.Path, e.Path+"/") {
			wantAnswer(t, "what is beside", impl.EntryAt(got.Layer, other.Path), impl.LayerResult{Layer: layerOf(other)})
		}
	}
}

func TestEntryThatIsPutIsThere(t *testing.T) {
	var entries []impl.Entry
	for _, path := range append(fewPaths(), "/aa", "/b", "/b/c") {
		entries = append(entries, kindsAt(path)...)
	}
	for _, layer := range rightLayers() {
		for _, e := range entries {
			wantPut(t, layer, e)
		}
	}
}

func TestPutEntryWhereThereIsSomethingBelow(t *testing.T) {
	below := layerOf(dirAt("/a/b"), fileAt("/a/b/c", "x"), opaqueAt("/a/c"), whiteAt("/a/c/d"))
	beside := layerOf(fileAt("/aa", "y"), dirAt("/ab"), fileAt("/ab/c", "z"))
	for _, first := range layerOf(dirAt("/a"), opaqueAt("/a")) {
		layer := slices.Concat(layerOf(first), below, beside)
		for _, e := range layerOf(dirAt("/a"), opaqueAt("/a")) {
			wantAnswer(t, "a directory put", impl.PutEntry(layer, e), impl.LayerResult{Layer: slices.Concat(layerOf(e), below, beside)})
		}
		for _, e := range layerOf(whiteAt("/a"), fileAt("/a", ""), fileAt("/a", "other bytes")) {
			wantAnswer(t, "no directory put", impl.PutEntry(layer, e), impl.LayerResult{Layer: slices.Concat(layerOf(e), beside)})
		}
		for _, e := range kindsAt("/a/b") {
			kept := below[1:2]
			if e.Kind == 1 || e.Kind == 3 {
				kept = nil
			}
			want := slices.Concat(layerOf(first, e), kept, below[2:], beside)
			wantAnswer(t, "put below", impl.PutEntry(layer, e), impl.LayerResult{Layer: want})
		}
	}
}

func TestPutEntryOfItsPath(t *testing.T) {
	for _, old := range kindsAt("/b") {
		for _, e := range append(kindsAt("/b"), fileAt("/b", ""), fileAt("/b", "bytes of three chunks")) {
			layer := layerOf(dirAt("/a"), old, fileAt("/bb", "x"))
			wantAnswer(t, "PutEntry", impl.PutEntry(layer, e), impl.LayerResult{Layer: layerOf(dirAt("/a"), e, fileAt("/bb", "x"))})
		}
	}
}

func TestPutEntryOfWrongEntries(t *testing.T) {
	layers := [][]impl.Entry{nil, layerOf(dirAt("/a")), layerOf(fileAt("/a", "x")), fullLayer(12)}
	for _, layer := range layers {
		for _, f := range faultyEntries() {
			wantAnswer(t, "PutEntry: "+f.name, impl.PutEntry(layer, f.e), impl.LayerResult{Code: f.code})
			below := f.e
			below.Path = "/z/z"
			wantAnswer(t, "PutEntry without a parent: "+f.name, impl.PutEntry(layer, below), impl.LayerResult{Code: cmp.Or(entryFaultByHand(below), impl.ErrDir)})
		}
		for _, f := range faultyPaths() {
			wantAnswer(t, "PutEntry of "+shortText(f.path), impl.PutEntry(layer, dirAt(f.path)), impl.LayerResult{Code: f.code})
		}
	}
}

func TestPutEntryWithoutAParent(t *testing.T) {
	layers := [][]impl.Entry{
		nil, layerOf(fileAt("/a", "x")), layerOf(fileAt("/a", "")), layerOf(whiteAt("/a")), layerOf(dirAt("/aa")), layerOf(opaqueAt("/b"), dirAt("/b/a")),
		append(layerOf(whiteAt("/a")), fullLayer(12)[5:]...), append(layerOf(whiteAt("/a"), dirAt("/aa"), dirAt("/ab"), dirAt("/ac"), dirAt("/ad")), fullLayer(12)[5:]...),
	}
	for _, layer := range layers {
		for _, path := range []string{"/a/b", "/a/b/c", "/a/zzzz"} {
			for _, e := range kindsAt(path) {
				wantAnswer(t, "PutEntry "+path, impl.PutEntry(layer, e), impl.LayerResult{Code: impl.ErrDir})
			}
		}
	}
	for _, e := range kindsAt("/a/b/c") {
		for _, layer := range [][]impl.Entry{layerOf(dirAt("/a")), layerOf(dirAt("/a"), fileAt("/a/b", "")), layerOf(opaqueAt("/a"), whiteAt("/a/b"))} {
			wantAnswer(t, "PutEntry below what is no directory", impl.PutEntry(layer, e), impl.LayerResult{Code: impl.ErrDir})
		}
		for _, up := range layerOf(dirAt("/a/b"), opaqueAt("/a/b")) {
			wantAnswer(t, "PutEntry below a directory", impl.PutEntry(layerOf(dirAt("/a"), up), e), impl.LayerResult{Layer: layerOf(dirAt("/a"), up, e)})
		}
	}
}

func TestPutEntryWhereThereAreMaxEntries(t *testing.T) {
	many := impl.LayerResult{Code: impl.ErrMany}
	full := fullLayer(12)
	for _, path := range []string{"/b", "/a/a", "/a/c/a", "/z", "/zzzz"} {
		for _, e := range kindsAt(path) {
			wantAnswer(t, "a new path", impl.PutEntry(full, e), many)
		}
	}
	for _, old := range full {
		for _, e := range kindsAt(old.Path) {
			wantPut(t, full, e)
			if impl.PutEntry(full, e).Code != impl.OK {
				t.Errorf("a full layer does not take %s again", e.Path)
			}
		}
	}
	wantAnswer(t, "white in place of a directory", impl.PutEntry(full, whiteAt("/a")), impl.LayerResult{Layer: append(layerOf(whiteAt("/a")), full[5:]...)})
	wantAnswer(t, "a file in place of a directory", impl.PutEntry(full, fileAt("/a/c", "c")), impl.LayerResult{Layer: slices.Concat(full[:2], layerOf(fileAt("/a/c", "c")), full[5:])})
	wantAnswer(t, "ErrDir of a new path", impl.PutEntry(full, dirAt("/z/z")), impl.LayerResult{Code: impl.ErrDir})
	for _, e := range kindsAt("/z") {
		wantAnswer(t, "the last place", impl.PutEntry(full[:11], e), impl.LayerResult{Layer: append(slices.Clone(full[:11]), e)})
	}
}

func TestDropBelow(t *testing.T) {
	asked := append(fewPaths(), "/b", "/a/a", "/a/b/a", "/aa", "/abc", "/a/b/cc", "/z/z/z")
	for _, layer := range rightLayers() {
		for _, path := range asked {
			got := impl.DropBelow(layer, path)
			wantAnswer(t, "DropBelow "+path, got, dropByHand(layer, path))
			if code := impl.LayerFault(got.Layer); code != impl.OK {
				t.Errorf("DropBelow %s leaves the fault %d", path, code)
			}
		}
	}
	full := fullLayer(12)
	wantAnswer(t, "DropBelow /a", impl.DropBelow(full, "/a"), impl.LayerResult{Layer: full[5:]})
	wantAnswer(t, "DropBelow /a/c", impl.DropBelow(full, "/a/c"), impl.LayerResult{Layer: slices.Concat(full[:2], full[5:])})
	wantAnswer(t, "DropBelow /zz", impl.DropBelow(full, "/zz"), impl.LayerResult{Layer: full})
	wantAnswer(t, "DropBelow of nothing", impl.DropBelow(nil, "/a"), impl.LayerResult{})
	names := layerOf(dirAt("/a"), fileAt("/a/b", ""), dirAt("/aa"), fileAt("/aa/b", ""), fileAt("/b", ""))
	wantAnswer(t, "DropBelow /a beside /aa", impl.DropBelow(names, "/a"), impl.LayerResult{Layer: names[2:]})
	wantAnswer(t, "DropBelow /aa beside /a", impl.DropBelow(names, "/aa"), impl.LayerResult{Layer: slices.Concat(names[:2], names[4:])})
}

func TestSameLayers(t *testing.T) {
	layers := rightLayers()
	for i, a := range layers {
		if copied := slices.Clone(a); !impl.SameLayers(a, a) || !impl.SameLayers(a, copied) {
			t.Fatalf("%s is not the same as itself", told(a))
		}
		for _, j := range []int{i / 2, i * 7 % len(layers), len(layers) - 1 - i} {
			if b := layers[j]; impl.SameLayers(a, b) != (told(a) == told(b)) {
				t.Fatalf("SameLayers of %s and %s: %v", told(a), told(b), told(a) != told(b))
			}
		}
	}
	if !impl.SameLayers(nil, []impl.Entry{}) || !impl.SameLayers([]impl.Entry{}, nil) || !impl.SameLayers(nil, nil) {
		t.Error("no entries are not the same as none")
	}
	if nils, none := layerOf(dirAt("/a")), layerOf(impl.Entry{Path: "/a", Kind: 2, Chunks: []int64{}}); !impl.SameLayers(nils, none) || !impl.SameLayers(none, nils) {
		t.Error("no chunks are not the same as none")
	}
}

func TestSameLayersFieldByField(t *testing.T) {
	long := fileAt("/a", "abcdefghijklmnopqrst")
	turned := func(at int) impl.Entry {
		e := long
		e.Chunks = slices.Clone(e.Chunks)
		e.Chunks[at]++
		return e
	}
	longer, swapped := long, long
	longer.Size++
	swapped.Chunks = []int64{long.Chunks[1], long.Chunks[0], long.Chunks[2]}
	others := layerOf(fileAt("/b", "abcdefghijklmnopqrst"), fileAt("/a", "abcdefghijklmnop"), fileAt("/a", ""), dirAt("/a"), longer, swapped, turned(0), turned(1), turned(2))
	for _, e := range others {
		for _, rest := range [][]impl.Entry{nil, layerOf(fileAt("/c", "x"))} {
			a, b := append(layerOf(long), rest...), append(layerOf(e), rest...)
			if impl.SameLayers(a, b) || impl.SameLayers(b, a) {
				t.Errorf("%s is the same as %s", told(a), told(b))
			}
		}
	}
	for _, kinds := range [][2]impl.Entry{{dirAt("/a"), opaqueAt("/a")}, {dirAt("/a"), whiteAt("/a")}, {fileAt("/a", ""), whiteAt("/a")}, {fileAt("/a", ""), dirAt("/a")}} {
		if impl.SameLayers(kinds[:1], kinds[1:]) || impl.SameLayers(kinds[1:], kinds[:1]) {
			t.Errorf("%s is the same as %s", told(kinds[0]), told(kinds[1]))
		}
	}
	full := fullLayer(12)
	for n := range 12 {
		if impl.SameLayers(full[:n], full) || impl.SameLayers(full, full[:n]) || impl.SameLayers(full[:n], full[:n+1]) {
			t.Errorf("a layer is the same as its first %d", n)
		}
		other := slices.Clone(full)
		other[n].Kind = other[n].Kind%4 + 1
		if impl.SameLayers(full, other) || impl.SameLayers(other, full) {
			t.Errorf("entry %d may be of another kind", n)
		}
	}
}

func TestChunksIn(t *testing.T) {
	one, two, three := "abcdefgh", "ijklmnop", "qrstuvwx"
	known := []struct {
		layer  []impl.Entry
		pieces []string
	}{
		{nil, nil},
		{layerOf(dirAt("/a"), whiteAt("/a/b"), opaqueAt("/b")), nil},
		{layerOf(fileAt("/a", "")), nil},
		{layerOf(fileAt("/a", "a")), []string{"a"}},
		{layerOf(fileAt("/a", three+two+one)), []string{three, two, one}},
		{layerOf(fileAt("/a", one+one)), []string{one}},
		{layerOf(fileAt("/a", one+one+one)), []string{one}},
		{layerOf(fileAt("/a", one+two+one)), []string{one, two}},
		{layerOf(fileAt("/a", two+one+one)), []string{two, one}},
		{layerOf(fileAt("/a", one), fileAt("/b", one)), []string{one}},
		{layerOf(fileAt("/a", three+one), fileAt("/b", one+two)), []string{three, one, two}},
		{layerOf(fileAt("/a", "z"), fileAt("/b", "a"), fileAt("/c", "z"), fileAt("/d", "m")), []string{"z", "a", "m"}},
		{layerOf(dirAt("/a"), fileAt("/a/b", two), fileAt("/ab", one), whiteAt("/b"), fileAt("/c", two+three)), []string{two, one, three}},
		{layerOf(fileAt("/a", bytesOfLargest+bytesOfZero)), []string{bytesOfLargest, bytesOfZero}},
		{layerOf(fileAt("/a", firstOfTwo), fileAt("/b", secondOfTwo)), []string{firstOfTwo}},
	}
	for _, k := range known {
		wantAnswer(t, "ChunksIn "+told(k.layer), impl.ChunksIn(k.layer), impl.IntsResult{List: digestsOfTexts(k.pieces...)})
	}
	var most []impl.Entry
	var pieces []string
	for i := range 12 {
		data := string(countedBytes(24 * (i + 1))[24*i:])
		most = append(most, fileAt("/"+string(rune('a'+i)), data))
		pieces = append(pieces, data[:8], data[8:16], data[16:])
	}
	if got := impl.ChunksIn(most); len(got.List) < 30 || told(got.List) != told(uniqueInOrder(digestsOfTexts(pieces...))) {
		t.Errorf("ChunksIn of 36 chunks: %v", got)
	}
}

func uniqueInOrder(list []int64) []int64 {
	var out []int64
	seen := map[int64]bool{}
	for _, n := range list {
		if !seen[n] {
			out = append(out, n)
		}
		seen[n] = true
	}
	return out
}

// TestManyStepsOfLayers goes on from layer to layer, beside what is worked out apart from the program.
func TestManyStepsOfLayers(t *testing.T) {
	spread := uint32(11)
	next := func(n int) int {
		spread = spread*1664525 + 1013904223
		return int(spread>>8) % n
	}
	paths := textsOver([]string{"/a", "/b", "/ab", "/zzzz"}, "", 3)
	var layer []impl.Entry
	codes := map[int64]int{}
	for range 6000 {
		path := paths[next(len(paths))]
		if len(layer) > 0 && next(2) == 0 {
			path = layer[next(len(layer))].Path + []string{"", "/a", "/b"}[next(3)]
		}
		var got, want impl.LayerResult
		if next(12) > 0 {
			e := kindsAt(path)[[]int{0, 1, 1, 1, 2, 3, 3}[next(7)]]
			got, want = impl.PutEntry(layer, e), putByHand(layer, e)
		} else {
			got, want = impl.DropBelow(layer, path), dropByHand(layer, path)
		}
		if told(got) != told(want) {
			t.Fatalf("%s: %s, not %s", path, told(got), told(want))
		}
		codes[got.Code]++
		if got.Code == impl.OK {
			layer = got.Layer
		}
	}
	for _, code := range []int64{impl.OK, impl.ErrDir, impl.ErrMany} {
		if codes[code] < 100 {
			t.Errorf("code %d came %d times alone", code, codes[code])
		}
	}
}
