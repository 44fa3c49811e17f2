package tests

import (
	"cmp"
	"fmt"
	"path"
	"slices"
	"strings"
	"testing"

	"loop.example/g00299/impl"
)

// layersUnder: lowers with upper above them, as a list of its own.
func layersUnder(lowers [][]impl.Entry, upper []impl.Entry) [][]impl.Entry {
	return append(slices.Clone(lowers), upper)
}

// viewByHand: what is seen of all layers; it may be more than a tree has room for.
func viewByHand(lowers [][]impl.Entry, upper []impl.Entry) []impl.Entry {
	view := map[string]impl.Entry{}
	for p, at := range seenByHand(layersUnder(lowers, upper)) {
		view[p] = at.e
	}
	return sortedLayer(view)
}

func mountFaultByHand(lowers [][]impl.Entry, upper []impl.Entry, p string) int64 {
	return cmp.Or(layersFaultByHand(layersUnder(lowers, upper)), pathFaultByLibrary(p))
}

func upperStays(upper []impl.Entry, reply int64) impl.MountResult {
	return impl.MountResult{Reply: reply, Upper: upper}
}

func upperIs(entries ...impl.Entry) impl.MountResult {
	return impl.MountResult{Upper: entries}
}

// putAbove lays the entry and all that is missing above it into a map at once, where none of them is first.
func putAbove(upper []impl.Entry, left map[string]impl.Entry, e impl.Entry) impl.MountResult {
	left[e.Path] = e
	for up := path.Dir(e.Path); up != "/"; up = path.Dir(up) {
		if _, there := left[up]; !there {
			left[up] = dirAt(up)
		}
	}
	if len(left) > 12 {
		return upperStays(upper, impl.ErrMany)
	}
	return upperIs(sortedLayer(left)...)
}

func writeOverByHand(lowers [][]impl.Entry, upper []impl.Entry, p string, data []byte) impl.MountResult {
	if code := mountFaultByHand(lowers, upper, p); code != impl.OK {
		return impl.MountResult{Code: code}
	}
	if len(data) > 24 {
		return impl.MountResult{Code: impl.ErrMany}
	}
	view := viewByHand(lowers, upper)
	if reply := homeByHand(view, p); reply != impl.OK {
		return upperStays(upper, reply)
	}
	if dirsOf(view)[p] {
		return upperStays(upper, impl.ErrDir)
	}
	return putAbove(upper, layerByPath(upper), fileAt(p, string(data)))
}

func makeOverByHand(lowers [][]impl.Entry, upper []impl.Entry, p string) impl.MountResult {
	if code := mountFaultByHand(lowers, upper, p); code != impl.OK {
		return impl.MountResult{Code: code}
	}
	view, left := viewByHand(lowers, upper), layerByPath(upper)
	if reply := homeByHand(view, p); reply != impl.OK {
		return upperStays(upper, reply)
	}
	if _, there := layerByPath(view)[p]; there {
		return upperStays(upper, impl.ErrTaken)
	}
	if left[p].Kind == 3 {
		return putAbove(upper, left, opaqueAt(p))
	}
	return putAbove(upper, left, dirAt(p))
}

func removeOverByHand(lowers [][]impl.Entry, upper []impl.Entry, p string) impl.MountResult {
	if code := mountFaultByHand(lowers, upper, p); code != impl.OK {
		return impl.MountResult{Code: code}
	}
	view, left := layerByPath(viewByHand(lowers, upper)), layerByPath(upper)
	if _, there := view[p]; !there {
		return upperStays(upper, impl.ErrNone)
	}
	for other := range view {
		if strings.HasPrefix(other, p+"/") {
			return upperStays(upper, impl.ErrForm)
		}
	}
	dropFrom(left, p)
	if _, still := layerByPath(viewByHand(lowers, sortedLayer(left)))[p]; !still {
		return upperIs(sortedLayer(left)...)
	}
	return putAbove(upper, left, whiteAt(p))
}

func copyUpByHand(lowers [][]impl.Entry, upper []impl.Entry, p string) impl.MountResult {
	if code := mountFaultByHand(lowers, upper, p); code != impl.OK {
		return impl.MountResult{Code: code}
	}
	seen, there := layerByPath(viewByHand(lowers, upper))[p]
	if !there {
		return upperStays(upper, impl.ErrNone)
	}
	left := layerByPath(upper)
	if _, has := left[p]; has {
		return upperStays(upper, impl.OK)
	}
	return putAbove(upper, left, seen)
}

// mountCall: one function at one path, what the model answers, and what the tree's function makes of the view ahead of it.
type mountCall struct {
	name string
	got  impl.MountResult
	want impl.MountResult
	tree func(view []impl.Entry) impl.TreeResult
}

func mountCallsAt(lowers [][]impl.Entry, upper []impl.Entry, p string, data string) []mountCall {
	bytes := []byte(data)
	same := func(view []impl.Entry) impl.TreeResult {
		return impl.TreeResult{Tree: view, Reply: impl.StatTree(view, p).Code}
	}
	return []mountCall{
		{"WriteOver", impl.WriteOver(lowers, upper, p, bytes), writeOverByHand(lowers, upper, p, bytes), func(view []impl.Entry) impl.TreeResult { return impl.WriteTree(view, p, bytes) }},
		{"MakeOver", impl.MakeOver(lowers, upper, p), makeOverByHand(lowers, upper, p), func(view []impl.Entry) impl.TreeResult { return impl.MakeDir(view, p) }},
		{"RemoveOver", impl.RemoveOver(lowers, upper, p), removeOverByHand(lowers, upper, p), func(view []impl.Entry) impl.TreeResult { return impl.RemoveTree(view, p) }},
		{"CopyUp", impl.CopyUp(lowers, upper, p), copyUpByHand(lowers, upper, p), same},
	}
}

func wantOneMount(t *testing.T, name func() string, got impl.MountResult, want impl.MountResult) {
	t.Helper()
	if got.Code != want.Code || got.Reply != want.Reply || !sameEntries(got.Upper, want.Upper) {
		t.Fatalf("%s: %s, not %s", name(), told(got), told(want))
	}
}

// wantAsInTree asks the promise: the view behind a call is the tree behind the call of the tree's function, with the same Reply.
func wantAsInTree(t *testing.T, name func() string, lowers [][]impl.Entry, upper []impl.Entry, c mountCall) {
	t.Helper()
	before, after := impl.ViewOver(lowers, upper), impl.ViewOver(lowers, c.got.Upper)
	if before.Code != impl.OK || c.got.Code != impl.OK {
		return
	}
	if code := impl.LayerFault(c.got.Upper); code != impl.OK {
		t.Fatalf("%s leaves the fault %d", name(), code)
	}
	if c.got.Reply != impl.OK && !sameEntries(c.got.Upper, upper) {
		t.Fatalf("%s: upper does not stay, but is %s", name(), told(c.got.Upper))
	}
	want := c.tree(before.Tree)
	if c.got.Reply == impl.ErrMany {
		return
	}
	if want.Reply == impl.ErrMany {
		want = impl.TreeResult{Code: impl.ErrMany}
	}
	if want.Reply != c.got.Reply {
		t.Fatalf("%s: Reply %d, but in the tree %d", name(), c.got.Reply, want.Reply)
	}
	want.Reply = impl.OK
	wantOneTree(t, func() string { return "the view behind " + name() }, after, want)
}

// wantMount asks all functions at one path: of the model, and of the tree that is seen.
func wantMount(t *testing.T, lowers [][]impl.Entry, upper []impl.Entry, p string, data string) {
	t.Helper()
	for _, c := range mountCallsAt(lowers, upper, p, data) {
		name := func() string { return c.name + " " + p + " to " + told(upper) + " over " + told(lowers) }
		wantOneMount(t, name, c.got, c.want)
		wantAsInTree(t, name, lowers, upper, c)
	}
}

func wantView(t *testing.T, lowers [][]impl.Entry, upper []impl.Entry) {
	t.Helper()
	name := func() string { return "the view of " + told(upper) + " over " + told(lowers) }
	got, layers := impl.ViewOver(lowers, upper), layersUnder(lowers, upper)
	wantOneTree(t, name, got, impl.MergeAll(layers))
	wantOneTree(t, name, got, mergeAllByHand(layers))
}

// mountStep: one call written out, and what it has to come to.
type mountStep struct {
	name string
	got  impl.MountResult
	want impl.MountResult
}

func wantSteps(t *testing.T, steps []mountStep) {
	t.Helper()
	for _, s := range steps {
		wantAnswer(t, s.name, s.got, s.want)
	}
}

func TestMountExamples(t *testing.T) {
	low := [][]impl.Entry{layerOf(dirAt("/a"), fileAt("/a/b", "b"))}
	x := []byte("x")
	wantAnswer(t, "write /a/c above, where /a is below", impl.WriteOver(low, nil, "/a/c", x), upperIs(dirAt("/a"), fileAt("/a/c", "x")))
	wantAnswer(t, "its view", impl.ViewOver(low, layerOf(dirAt("/a"), fileAt("/a/c", "x"))), impl.TreeResult{Tree: layerOf(dirAt("/a"), fileAt("/a/b", "b"), fileAt("/a/c", "x"))})
	white := layerOf(dirAt("/a"), whiteAt("/a/b"))
	wantAnswer(t, "remove /a/b, which is below", impl.RemoveOver(low, nil, "/a/b"), upperIs(white...))
	wantAnswer(t, "its view", impl.ViewOver(low, white), impl.TreeResult{Tree: layerOf(dirAt("/a"))})
	wantAnswer(t, "remove /a then", impl.RemoveOver(low, white, "/a"), upperIs(whiteAt("/a")))
	wantAnswer(t, "make /a again", impl.MakeOver(low, layerOf(whiteAt("/a")), "/a"), upperIs(opaqueAt("/a")))
	wantAnswer(t, "its view", impl.ViewOver(low, layerOf(opaqueAt("/a"))), impl.TreeResult{Tree: layerOf(dirAt("/a"))})
	wantAnswer(t, "copy /a/b up", impl.CopyUp(low, nil, "/a/b"), upperIs(low[0]...))
}

// TestMountOfNoLowers: without lowers, or with lowers of nothing, upper is a tree like another one.
func TestMountOfNoLowers(t *testing.T) {
	upper := layerOf(dirAt("/a"), fileAt("/a/b", "b"), fileAt("/c", "c"), dirAt("/d"))
	x := []byte("x")
	for _, lowers := range [][][]impl.Entry{nil, {}, {nil}, {nil, {}}, {nil, nil, nil}} {
		wantSteps(t, []mountStep{
			{"write to nothing", impl.WriteOver(lowers, nil, "/b", x), upperIs(fileAt("/b", "x"))},
			{"make in nothing", impl.MakeOver(lowers, nil, "/b"), upperIs(dirAt("/b"))},
			{"remove from nothing", impl.RemoveOver(lowers, nil, "/b"), upperStays(nil, impl.ErrNone)},
			{"copy up of nothing", impl.CopyUp(lowers, nil, "/b"), upperStays(nil, impl.ErrNone)},
			{"write below nothing", impl.WriteOver(lowers, nil, "/b/c", x), upperStays(nil, impl.ErrNone)},
			{"make below nothing", impl.MakeOver(lowers, nil, "/b/c"), upperStays(nil, impl.ErrNone)},
			{"write at the top", impl.WriteOver(lowers, upper, "/b", x), upperIs(upper[0], upper[1], fileAt("/b", "x"), upper[2], upper[3])},
			{"write below", impl.WriteOver(lowers, upper, "/d/e", nil), upperIs(slices.Concat(upper, layerOf(fileAt("/d/e", "")))...)},
			{"write anew", impl.WriteOver(lowers, upper, "/c", x), upperIs(upper[0], upper[1], fileAt("/c", "x"), upper[3])},
			{"make at the top", impl.MakeOver(lowers, upper, "/b"), upperIs(upper[0], upper[1], dirAt("/b"), upper[2], upper[3])},
			{"make below", impl.MakeOver(lowers, upper, "/a/c"), upperIs(upper[0], upper[1], dirAt("/a/c"), upper[2], upper[3])},
			{"remove at the top", impl.RemoveOver(lowers, upper, "/c"), upperIs(upper[0], upper[1], upper[3])},
			{"remove below", impl.RemoveOver(lowers, upper, "/a/b"), upperIs(upper[0], upper[2], upper[3])},
			{"remove an empty directory", impl.RemoveOver(lowers, upper, "/d"), upperIs(upper[:3]...)},
			{"remove a directory that has something", impl.RemoveOver(lowers, upper, "/a"), upperStays(upper, impl.ErrForm)},
			{"copy up of what is there", impl.CopyUp(lowers, upper, "/a/b"), upperIs(upper...)},
		})
		wantAnswer(t, "the view of nothing", impl.ViewOver(lowers, nil), impl.TreeResult{})
		wantAnswer(t, "the view of upper alone", impl.ViewOver(lowers, upper), impl.TreeResult{Tree: upper})
		for _, p := range pathsOfTrees() {
			wantMount(t, lowers, nil, p, "x")
			wantMount(t, lowers, upper, p, "x")
		}
	}
}

// homesOver: one to three lowers and an upper, which have a home of one depth in upper, in a lower alone, in several, or in all.
func homesOver(home []impl.Entry) (lowers [][][]impl.Entry, uppers [][]impl.Entry) {
	beside := layerOf(fileAt("/z", "beside"))
	has := slices.Concat(home, beside)
	lowers = [][][]impl.Entry{nil, {has}, {has, nil}, {nil, has}, {has, beside}, {beside, has, nil}, {has, has, has}, {nil, nil, has}}
	uppers = [][]impl.Entry{nil, beside, has, home}
	for i := range home {
		uppers = append(uppers, home[:i])
	}
	return lowers, uppers
}

// TestPathsBelowHomes: each function at a path at the top and below directories, wherever these stand and whatever stands at the path.
func TestPathsBelowHomes(t *testing.T) {
	for _, home := range [][]impl.Entry{nil, layerOf(dirAt("/h")), layerOf(dirAt("/h"), dirAt("/h/i"))} {
		p := "/m"
		if len(home) > 0 {
			p = home[len(home)-1].Path + "/m"
		}
		lowers, uppers := homesOver(home)
		for _, low := range lowers {
			for _, upper := range uppers {
				wantView(t, low, upper)
				wantMount(t, low, upper, p, "new")
				if !parentIsThere(upper, p) {
					continue
				}
				for _, e := range kindsAt(p) {
					with := sortedLayer(layerByPath(append(slices.Clone(upper), e)))
					wantView(t, low, with)
					wantMount(t, low, with, p, "new")
				}
			}
			for at, layer := range low {
				if !parentIsThere(layer, p) {
					continue
				}
				for _, e := range kindsAt(p) {
					low := slices.Clone(low)
					low[at] = sortedLayer(layerByPath(append(slices.Clone(layer), e)))
					for _, upper := range uppers {
						wantMount(t, low, upper, p, "new")
					}
				}
			}
		}
	}
}

// TestWhatIsOpaqueWhenMadeAgain: a directory made where upper has a white entry, and where it has none.
func TestWhatIsOpaqueWhenMadeAgain(t *testing.T) {
	for _, home := range [][]impl.Entry{nil, layerOf(dirAt("/h")), layerOf(dirAt("/h"), dirAt("/h/i"))} {
		p := "/m"
		if len(home) > 0 {
			p = home[len(home)-1].Path + "/m"
		}
		overs := [][]impl.Entry{nil, layerOf(dirAt(p)), layerOf(opaqueAt(p)), layerOf(fileAt(p, "low")), layerOf(whiteAt(p))}
		if len(home) < 2 {
			overs = append(overs, layerOf(dirAt(p), fileAt(p+"/n", "n")), layerOf(opaqueAt(p), dirAt(p+"/n")))
		}
		for _, over := range overs {
			low, high := slices.Concat(home, over), slices.Concat(home, layerOf(whiteAt(p)))
			view := impl.TreeResult{Tree: slices.Concat(home, layerOf(dirAt(p)))}
			for _, lowers := range [][][]impl.Entry{{low}, {low, home}, {nil, low}, {low, nil, low}} {
				name := "made again over " + told(lowers)
				got := impl.MakeOver(lowers, high, p)
				wantAnswer(t, name, got, upperIs(slices.Concat(home, layerOf(opaqueAt(p)))...))
				wantAnswer(t, "the view of it, "+name, impl.ViewOver(lowers, got.Upper), view)
				wantAnswer(t, "the list of it, "+name, impl.ListOver(layersUnder(lowers, got.Upper), p), impl.NamesResult{})
				wantMount(t, lowers, high, p, "x")
				wantMount(t, lowers, got.Upper, p, "x")
				if len(home) < 2 {
					wantMount(t, lowers, high, p+"/n", "x")
					wantMount(t, lowers, got.Upper, p+"/n", "x")
				}
			}
			// A white entry of a lower layer is not upper's: what it hides stays hidden without an opaque one.
			hidden := [][]impl.Entry{low, high}
			for _, upper := range [][]impl.Entry{nil, home} {
				got := impl.MakeOver(hidden, upper, p)
				wantAnswer(t, "made over a white entry below", got, upperIs(slices.Concat(home, layerOf(dirAt(p)))...))
				wantAnswer(t, "the view over a white entry below", impl.ViewOver(hidden, got.Upper), view)
			}
		}
	}
	low := [][]impl.Entry{layerOf(dirAt("/a"), dirAt("/a/b"), fileAt("/a/b/c", "c"))}
	wantSteps(t, []mountStep{
		{"a white entry beside", impl.MakeOver(low, layerOf(whiteAt("/b")), "/c"), upperIs(whiteAt("/b"), dirAt("/c"))},
		{"a white entry whose name is longer", impl.MakeOver(nil, layerOf(whiteAt("/bb")), "/b"), upperIs(dirAt("/b"), whiteAt("/bb"))},
		{"a white entry below an opaque one", impl.MakeOver(low, layerOf(opaqueAt("/a"), whiteAt("/a/b")), "/a/b"), upperIs(opaqueAt("/a"), opaqueAt("/a/b"))},
		{"below an opaque one", impl.MakeOver(low, layerOf(opaqueAt("/a")), "/a/b"), upperIs(opaqueAt("/a"), dirAt("/a/b"))},
		{"below one made again", impl.MakeOver(low, layerOf(dirAt("/a"), opaqueAt("/a/b")), "/a/b/c"), upperIs(dirAt("/a"), opaqueAt("/a/b"), dirAt("/a/b/c"))},
		{"made where it is opaque", impl.MakeOver(low, layerOf(opaqueAt("/a")), "/a"), upperStays(layerOf(opaqueAt("/a")), impl.ErrTaken)},
		{"below a white entry", impl.MakeOver(low, layerOf(whiteAt("/a")), "/a/b"), upperStays(layerOf(whiteAt("/a")), impl.ErrNone)},
	})
}

// TestRemovedAndMadeAgain goes round several times: neither what was there nor what was made ahead comes back.
func TestRemovedAndMadeAgain(t *testing.T) {
	low := [][]impl.Entry{layerOf(dirAt("/a"), fileAt("/a/b", "low")), layerOf(dirAt("/a"), fileAt("/a/c", "low"))}
	var upper []impl.Entry
	do := func(name string, got impl.MountResult, want ...impl.Entry) {
		t.Helper()
		wantAnswer(t, name, got, upperIs(want...))
		upper = got.Upper
	}
	do("one removed", impl.RemoveOver(low, upper, "/a/b"), dirAt("/a"), whiteAt("/a/b"))
	do("the other one removed", impl.RemoveOver(low, upper, "/a/c"), dirAt("/a"), whiteAt("/a/b"), whiteAt("/a/c"))
	do("the directory removed", impl.RemoveOver(low, upper, "/a"), whiteAt("/a"))
	for range 3 {
		do("made again", impl.MakeOver(low, upper, "/a"), opaqueAt("/a"))
		do("written", impl.WriteOver(low, upper, "/a/b", []byte("new")), opaqueAt("/a"), fileAt("/a/b", "new"))
		wantAnswer(t, "the view", impl.ViewOver(low, upper), impl.TreeResult{Tree: layerOf(dirAt("/a"), fileAt("/a/b", "new"))})
		do("removed below an opaque one", impl.RemoveOver(low, upper, "/a/b"), opaqueAt("/a"))
		do("the opaque one removed", impl.RemoveOver(low, upper, "/a"), whiteAt("/a"))
		wantAnswer(t, "the view", impl.ViewOver(low, upper), impl.TreeResult{})
		do("a file in its place", impl.WriteOver(low, upper, "/a", nil), fileAt("/a", ""))
		do("the file removed", impl.RemoveOver(low, upper, "/a"), whiteAt("/a"))
	}
}

func TestWhetherWhiteIsNeeded(t *testing.T) {
	file, low := fileAt("/a", "high"), [][]impl.Entry{layerOf(fileAt("/a", "low"))}
	empty := [][]impl.Entry{layerOf(dirAt("/a"))}
	full := [][]impl.Entry{layerOf(dirAt("/a"), fileAt("/a/b", "low"), dirAt("/a/c"))}
	hidden := [][]impl.Entry{low[0], layerOf(whiteAt("/a"))}
	remove := impl.RemoveOver
	wantSteps(t, []mountStep{
		{"a file in upper alone", remove(nil, layerOf(file), "/a"), upperIs()},
		{"a file in upper alone, lowers of something else", remove([][]impl.Entry{layerOf(fileAt("/aa", "")), layerOf(fileAt("/b", ""))}, layerOf(file), "/a"), upperIs()},
		{"a directory in upper alone", remove(nil, layerOf(dirAt("/a")), "/a"), upperIs()},
		{"an opaque one in upper alone", remove(nil, layerOf(opaqueAt("/a")), "/a"), upperIs()},
		{"a file in a lower alone", remove(low, nil, "/a"), upperIs(whiteAt("/a"))},
		{"a file in the lowest alone", remove([][]impl.Entry{low[0], nil, nil}, nil, "/a"), upperIs(whiteAt("/a"))},
		{"a directory in a lower alone", remove(empty, nil, "/a"), upperIs(whiteAt("/a"))},
		{"an opaque one in a lower alone", remove([][]impl.Entry{layerOf(opaqueAt("/a"))}, nil, "/a"), upperIs(whiteAt("/a"))},
		{"a file in both", remove(low, layerOf(file), "/a"), upperIs(whiteAt("/a"))},
		{"a file over a directory", remove(full, layerOf(file), "/a"), upperIs(whiteAt("/a"))},
		{"a directory over a file", remove(low, layerOf(dirAt("/a")), "/a"), upperIs(whiteAt("/a"))},
		{"an empty directory in both", remove(empty, layerOf(dirAt("/a")), "/a"), upperIs(whiteAt("/a"))},
		{"an opaque one over a directory that has something", remove(full, layerOf(opaqueAt("/a")), "/a"), upperIs(whiteAt("/a"))},
		{"a directory all of which is white", remove(full, layerOf(dirAt("/a"), whiteAt("/a/b"), whiteAt("/a/c")), "/a"), upperIs(whiteAt("/a"))},
		{"a directory of whites in upper alone", remove(nil, layerOf(dirAt("/a"), whiteAt("/a/b"), fileAt("/b", "")), "/a"), upperIs(fileAt("/b", ""))},
		{"a white directory already", remove(full, layerOf(whiteAt("/a")), "/a"), upperStays(layerOf(whiteAt("/a")), impl.ErrNone)},
		{"below an opaque one, of upper alone", remove(nil, layerOf(opaqueAt("/a"), fileAt("/a/b", "")), "/a/b"), upperIs(opaqueAt("/a"))},
		{"below an opaque one, over what it hides", remove(full, layerOf(opaqueAt("/a"), fileAt("/a/b", "")), "/a/b"), upperIs(opaqueAt("/a"))},
		{"a directory below an opaque one", remove(full, layerOf(opaqueAt("/a"), dirAt("/a/c"), whiteAt("/a/c/d")), "/a/c"), upperIs(opaqueAt("/a"))},
		{"two below an opaque one", remove([][]impl.Entry{layerOf(dirAt("/a"), dirAt("/a/b"), fileAt("/a/b/c", ""))}, layerOf(opaqueAt("/a"), dirAt("/a/b"), fileAt("/a/b/c", "x")), "/a/b/c"), upperIs(opaqueAt("/a"), dirAt("/a/b"))},
		{"what an opaque one hides", remove(full, layerOf(opaqueAt("/a")), "/a/b"), upperStays(layerOf(opaqueAt("/a")), impl.ErrNone)},
		{"below a directory that is not opaque", remove(full, layerOf(dirAt("/a"), fileAt("/a/b", "")), "/a/b"), upperIs(dirAt("/a"), whiteAt("/a/b"))},
		{"what a lower hides from a lower one, in upper too", remove(hidden, layerOf(file), "/a"), upperIs()},
		{"what a lower hides from a lower one", remove(hidden, nil, "/a"), upperStays(nil, impl.ErrNone)},
		{"what an opaque lower hides from a lower one", remove([][]impl.Entry{full[0], layerOf(opaqueAt("/a"))}, layerOf(dirAt("/a"), fileAt("/a/b", "")), "/a/b"), upperIs(dirAt("/a"))},
		{"what a file of a lower hides from a lower one", remove([][]impl.Entry{full[0], low[0]}, layerOf(dirAt("/a"), fileAt("/a/b", "")), "/a/b"), upperIs(dirAt("/a"))},
		{"there again above what a lower hides", remove([][]impl.Entry{low[0], layerOf(whiteAt("/a")), low[0]}, layerOf(file), "/a"), upperIs(whiteAt("/a"))},
		{"what is below it and beside it in upper", remove(empty, layerOf(dirAt("/a"), whiteAt("/a/b"), fileAt("/aa", ""), fileAt("/b", "")), "/a"), upperIs(whiteAt("/a"), fileAt("/aa", ""), fileAt("/b", ""))},
	})
	for _, lowers := range [][][]impl.Entry{low, empty, full, hidden} {
		for _, upper := range [][]impl.Entry{nil, layerOf(file), layerOf(dirAt("/a")), layerOf(opaqueAt("/a")), layerOf(whiteAt("/a")), layerOf(dirAt("/a"), whiteAt("/a/b")), layerOf(dirAt("/a"), whiteAt("/a/b"), whiteAt("/a/c"))} {
			for _, p := range []string{"/a", "/a/b", "/a/c"} {
				wantMount(t, lowers, upper, p, "x")
			}
		}
	}
}

// TestFilledUp: upper has an entry of all paths above, of all but one, and of none.
func TestFilledUp(t *testing.T) {
	low := [][]impl.Entry{layerOf(dirAt("/a"), dirAt("/a/b"), fileAt("/a/b/c", "low"), fileAt("/a/d", "low"), dirAt("/aa"))}
	deep, flat := [][]impl.Entry{layerOf(dirAt("/a"), dirAt("/a/b")), layerOf(dirAt("/a"))}, layerOf(fileAt("/z", "z"))
	a, b, x := dirAt("/a"), dirAt("/a/b"), []byte("x")
	wantSteps(t, []mountStep{
		{"none above to write", impl.WriteOver(low, flat, "/b", x), upperIs(fileAt("/b", "x"), flat[0])},
		{"none above to make", impl.MakeOver(low, flat, "/b"), upperIs(dirAt("/b"), flat[0])},
		{"none above to remove", impl.RemoveOver(low, flat, "/aa"), upperIs(whiteAt("/aa"), flat[0])},
		{"none above to copy up", impl.CopyUp(low, flat, "/aa"), upperIs(dirAt("/aa"), flat[0])},
		{"one of one to write", impl.WriteOver(low, flat, "/a/d", x), upperIs(a, fileAt("/a/d", "x"), flat[0])},
		{"one of one to make", impl.MakeOver(low, flat, "/a/e"), upperIs(a, dirAt("/a/e"), flat[0])},
		{"one of one to remove", impl.RemoveOver(low, flat, "/a/d"), upperIs(a, whiteAt("/a/d"), flat[0])},
		{"one of one to copy up", impl.CopyUp(low, flat, "/a/d"), upperIs(a, fileAt("/a/d", "low"), flat[0])},
		{"two of two to write", impl.WriteOver(low, flat, "/a/b/d", x), upperIs(a, b, fileAt("/a/b/d", "x"), flat[0])},
		{"two of two to make", impl.MakeOver(low, flat, "/a/b/d"), upperIs(a, b, dirAt("/a/b/d"), flat[0])},
		{"two of two to remove", impl.RemoveOver(low, flat, "/a/b/c"), upperIs(a, b, whiteAt("/a/b/c"), flat[0])},
		{"two of two to copy up", impl.CopyUp(low, flat, "/a/b/c"), upperIs(a, b, fileAt("/a/b/c", "low"), flat[0])},
		{"one of two to write", impl.WriteOver(low, layerOf(a, fileAt("/a/z", "")), "/a/b/d", x), upperIs(a, b, fileAt("/a/b/d", "x"), fileAt("/a/z", ""))},
		{"one of two to make", impl.MakeOver(low, layerOf(a), "/a/b/d"), upperIs(a, b, dirAt("/a/b/d"))},
		{"one of two to remove", impl.RemoveOver(low, layerOf(a), "/a/b/c"), upperIs(a, b, whiteAt("/a/b/c"))},
		{"one of two to copy up", impl.CopyUp(low, layerOf(a), "/a/b/c"), upperIs(a, b, fileAt("/a/b/c", "low"))},
		{"none of two to write", impl.WriteOver(low, layerOf(a, b), "/a/b/d", x), upperIs(a, b, fileAt("/a/b/d", "x"))},
		{"none of two to make", impl.MakeOver(low, layerOf(a, b), "/a/b/d"), upperIs(a, b, dirAt("/a/b/d"))},
		{"none of two to remove", impl.RemoveOver(low, layerOf(a, b), "/a/b/c"), upperIs(a, b, whiteAt("/a/b/c"))},
		{"none of two to copy up", impl.CopyUp(low, layerOf(a, b), "/a/b/c"), upperIs(a, b, fileAt("/a/b/c", "low"))},
		{"none of two, both opaque", impl.WriteOver(low, layerOf(opaqueAt("/a"), opaqueAt("/a/b")), "/a/b/c", x), upperIs(opaqueAt("/a"), opaqueAt("/a/b"), fileAt("/a/b/c", "x"))},
		{"one of one, opaque in the lower", impl.WriteOver([][]impl.Entry{layerOf(opaqueAt("/a"))}, nil, "/a/b", x), upperIs(a, fileAt("/a/b", "x"))},
		{"two of two, from two lowers", impl.WriteOver(deep, nil, "/a/b/c", x), upperIs(a, b, fileAt("/a/b/c", "x"))},
		{"a directory that is copied up below two", impl.CopyUp(deep, nil, "/a/b"), upperIs(a, b)},
		{"what is not above it", impl.WriteOver(low, layerOf(dirAt("/aa")), "/a/b/d", x), upperIs(a, b, fileAt("/a/b/d", "x"), dirAt("/aa"))},
	})
	for _, upper := range [][]impl.Entry{nil, flat, layerOf(a), layerOf(a, b), layerOf(opaqueAt("/a")), layerOf(a, opaqueAt("/a/b"))} {
		for _, lowers := range [][][]impl.Entry{low, deep, append(low, deep...)} {
			for _, p := range []string{"/a", "/a/b", "/a/b/c", "/a/b/d", "/a/d", "/a/e", "/aa", "/aa/b", "/b", "/b/c"} {
				wantMount(t, lowers, upper, p, "x")
			}
		}
	}
}

// TestTheHomeOver: the parent is nowhere, white, hidden or a file, in upper and in a lower.
func TestTheHomeOver(t *testing.T) {
	dir, file, white := layerOf(dirAt("/a")), layerOf(fileAt("/a", "")), layerOf(whiteAt("/a"))
	deep := layerOf(dirAt("/a"), dirAt("/a/b"))
	for _, k := range []struct {
		name   string
		lowers [][]impl.Entry
		upper  []impl.Entry
		p      string
		reply  int64
	}{
		{"nowhere", nil, nil, "/a/b", impl.ErrNone},
		{"nowhere beside something", [][]impl.Entry{layerOf(dirAt("/aa"))}, layerOf(dirAt("/b")), "/a/b", impl.ErrNone},
		{"two of them nowhere", nil, nil, "/a/b/c", impl.ErrNone},
		{"one of two nowhere, the other in a lower", [][]impl.Entry{dir}, nil, "/a/b/c", impl.ErrNone},
		{"one of two nowhere, the other in upper", nil, dir, "/a/b/c", impl.ErrNone},
		{"white in upper", nil, white, "/a/b", impl.ErrNone},
		{"white in upper over a directory", [][]impl.Entry{dir}, white, "/a/b", impl.ErrNone},
		{"white two above", [][]impl.Entry{deep}, white, "/a/b/c", impl.ErrNone},
		{"white right above", [][]impl.Entry{deep}, layerOf(dirAt("/a"), whiteAt("/a/b")), "/a/b/c", impl.ErrNone},
		{"white in a lower", [][]impl.Entry{white}, nil, "/a/b", impl.ErrNone},
		{"white in a lower over a directory", [][]impl.Entry{dir, white}, nil, "/a/b", impl.ErrNone},
		{"hidden by an opaque one", [][]impl.Entry{deep}, layerOf(opaqueAt("/a")), "/a/b/c", impl.ErrNone},
		{"hidden by an opaque one of a lower", [][]impl.Entry{deep, layerOf(opaqueAt("/a"))}, dir, "/a/b/c", impl.ErrNone},
		{"hidden by a file two above", [][]impl.Entry{deep}, file, "/a/b/c", impl.ErrNone},
		{"a file in upper", nil, file, "/a/b", impl.ErrDir},
		{"a file in upper over a directory", [][]impl.Entry{deep}, file, "/a/b", impl.ErrDir},
		{"a file in a lower", [][]impl.Entry{file}, nil, "/a/b", impl.ErrDir},
		{"a file in a lower over a directory", [][]impl.Entry{dir, file}, nil, "/a/b", impl.ErrDir},
		{"a file below a directory of a lower", [][]impl.Entry{layerOf(dirAt("/a"), fileAt("/a/b", ""))}, nil, "/a/b/c", impl.ErrDir},
		{"a file below a directory of both", [][]impl.Entry{deep}, layerOf(dirAt("/a"), fileAt("/a/b", "")), "/a/b/c", impl.ErrDir},
	} {
		wantAnswer(t, "write, the parent "+k.name, impl.WriteOver(k.lowers, k.upper, k.p, []byte("x")), upperStays(k.upper, k.reply))
		wantAnswer(t, "make, the parent "+k.name, impl.MakeOver(k.lowers, k.upper, k.p), upperStays(k.upper, k.reply))
		wantAnswer(t, "remove, the parent "+k.name, impl.RemoveOver(k.lowers, k.upper, k.p), upperStays(k.upper, impl.ErrNone))
		wantAnswer(t, "copy up, the parent "+k.name, impl.CopyUp(k.lowers, k.upper, k.p), upperStays(k.upper, impl.ErrNone))
		wantMount(t, k.lowers, k.upper, k.p, "x")
	}
	over := upperIs(dirAt("/a"), fileAt("/a/b", "x"))
	for _, lowers := range [][][]impl.Entry{{file}, {white}, {dir, white}, {deep, file}} {
		wantAnswer(t, "a directory of upper over what is none", impl.WriteOver(lowers, dir, "/a/b", []byte("x")), over)
		wantMount(t, lowers, dir, "/a/b", "x")
	}
}

// TestPathThatIsSeenAlready: a file or a directory stands at the path, in upper, in a lower or in both.
func TestPathThatIsSeenAlready(t *testing.T) {
	file, dir, opaque := layerOf(fileAt("/a", "old")), layerOf(dirAt("/a")), layerOf(opaqueAt("/a"))
	none := [][]impl.Entry(nil)
	written := upperIs(fileAt("/a", "x"))
	for _, k := range []struct {
		name   string
		lowers [][]impl.Entry
		upper  []impl.Entry
		write  impl.MountResult
		taken  bool
	}{
		{"a file in upper", none, file, written, true},
		{"a file in a lower", [][]impl.Entry{file}, nil, written, true},
		{"a file in both", [][]impl.Entry{file}, layerOf(fileAt("/a", "other")), written, true},
		{"a file over a directory", [][]impl.Entry{dir}, file, written, true},
		{"a file over a directory in lowers", [][]impl.Entry{dir, file}, nil, written, true},
		{"a directory in upper", none, dir, upperStays(dir, impl.ErrDir), true},
		{"an opaque one in upper", none, opaque, upperStays(opaque, impl.ErrDir), true},
		{"a directory in a lower", [][]impl.Entry{dir}, nil, upperStays(nil, impl.ErrDir), true},
		{"an opaque one in a lower", [][]impl.Entry{opaque, nil}, nil, upperStays(nil, impl.ErrDir), true},
		{"a directory in both", [][]impl.Entry{dir}, dir, upperStays(dir, impl.ErrDir), true},
		{"a directory over a file", [][]impl.Entry{file}, dir, upperStays(dir, impl.ErrDir), true},
		{"white over a file", [][]impl.Entry{file}, layerOf(whiteAt("/a")), written, false},
		{"white over a directory", [][]impl.Entry{dir}, layerOf(whiteAt("/a")), written, false},
		{"white over nothing", none, layerOf(whiteAt("/a")), written, false},
		{"white in a lower", [][]impl.Entry{dir, layerOf(whiteAt("/a"))}, nil, written, false},
	} {
		wantAnswer(t, "write over "+k.name, impl.WriteOver(k.lowers, k.upper, "/a", []byte("x")), k.write)
		if made := impl.MakeOver(k.lowers, k.upper, "/a"); k.taken {
			wantAnswer(t, "make over "+k.name, made, upperStays(k.upper, impl.ErrTaken))
		} else if made.Reply != impl.OK {
			t.Errorf("make over %s: %s", k.name, told(made))
		}
		wantMount(t, k.lowers, k.upper, "/a", "x")
		wantMount(t, k.lowers, k.upper, "/a/b", "x")
	}
}

// TestDirectoryThatHasSomethingOver: what it has is seen in upper, in a lower, in both, or not at all.
func TestDirectoryThatHasSomethingOver(t *testing.T) {
	dir := layerOf(dirAt("/a"))
	has := layerOf(dirAt("/a"), fileAt("/a/b", ""))
	sub := layerOf(dirAt("/a"), dirAt("/a/c"))
	gone := layerOf(dirAt("/a"), whiteAt("/a/b"))
	for _, k := range []struct {
		name   string
		lowers [][]impl.Entry
		upper  []impl.Entry
		stays  bool
	}{
		{"a file in upper", nil, has, true},
		{"a directory in upper", nil, sub, true},
		{"a file in upper, over an empty one", [][]impl.Entry{dir}, has, true},
		{"a file below an opaque one", [][]impl.Entry{has}, layerOf(opaqueAt("/a"), fileAt("/a/b", "")), true},
		{"a file in a lower", [][]impl.Entry{has}, nil, true},
		{"a directory in a lower", [][]impl.Entry{sub, nil}, nil, true},
		{"a file in a lower, below an empty one", [][]impl.Entry{has}, dir, true},
		{"something in both", [][]impl.Entry{has}, sub, true},
		{"the same in both", [][]impl.Entry{has, has}, has, true},
		{"one of two left", [][]impl.Entry{has, sub}, gone, true},
		{"all of it white", [][]impl.Entry{has}, gone, false},
		{"all of it white in a lower", [][]impl.Entry{has, gone}, nil, false},
		{"all of it hidden", [][]impl.Entry{has}, layerOf(opaqueAt("/a")), false},
		{"all of it hidden by a lower", [][]impl.Entry{has, layerOf(opaqueAt("/a"))}, dir, false},
		{"all of it hidden by a file", [][]impl.Entry{has, layerOf(fileAt("/a", ""))}, dir, false},
		{"something beside", [][]impl.Entry{layerOf(dirAt("/a"), fileAt("/aa", ""), dirAt("/b"), fileAt("/b/a", ""))}, nil, false},
	} {
		got := impl.RemoveOver(k.lowers, k.upper, "/a")
		if k.stays {
			wantAnswer(t, "remove, with "+k.name, got, upperStays(k.upper, impl.ErrForm))
		} else if got.Reply != impl.OK || impl.LookOver(layersUnder(k.lowers, got.Upper), "/a").Code != impl.ErrNone {
			t.Errorf("remove, with %s: %s", k.name, told(got))
		}
		wantMount(t, k.lowers, k.upper, "/a", "x")
	}
}

func TestCopyUpKnown(t *testing.T) {
	bytes := fileAt("/a", "bytes of three chunks")
	file, falling := [][]impl.Entry{layerOf(bytes)}, fallingFile("/a/b")
	tree := [][]impl.Entry{layerOf(dirAt("/a"), falling, opaqueAt("/a/c"), fileAt("/a/c/d", "d"))}
	both := [][]impl.Entry{layerOf(dirAt("/a"), fileAt("/a/b", "lowest")), layerOf(opaqueAt("/a"), fileAt("/a/c", "c"))}
	own := layerOf(opaqueAt("/a"), fileAt("/a/b", "own"), whiteAt("/a/c"))
	wantSteps(t, []mountStep{
		{"a file", impl.CopyUp(file, nil, "/a"), upperIs(bytes)},
		{"a file of no bytes", impl.CopyUp([][]impl.Entry{layerOf(fileAt("/a", ""))}, nil, "/a"), upperIs(fileAt("/a", ""))},
		{"the upper one of two files", impl.CopyUp([][]impl.Entry{layerOf(fileAt("/a", "old")), file[0], nil}, nil, "/a"), upperIs(bytes)},
		{"a file beside something", impl.CopyUp(file, layerOf(dirAt("/aa"), whiteAt("/b")), "/a"), upperIs(bytes, dirAt("/aa"), whiteAt("/b"))},
		{"a file below", impl.CopyUp(tree, nil, "/a/b"), upperIs(dirAt("/a"), falling)},
		{"a file two below", impl.CopyUp(tree, nil, "/a/c/d"), upperIs(dirAt("/a"), dirAt("/a/c"), fileAt("/a/c/d", "d"))},
		{"a directory", impl.CopyUp(tree, nil, "/a"), upperIs(dirAt("/a"))},
		{"an opaque one", impl.CopyUp(tree, nil, "/a/c"), upperIs(dirAt("/a"), dirAt("/a/c"))},
		{"an opaque one that hides", impl.CopyUp(both, nil, "/a"), upperIs(dirAt("/a"))},
		{"what upper has as opaque", impl.CopyUp(both, own, "/a"), upperIs(own...)},
		{"what upper has as a file", impl.CopyUp(both, own, "/a/b"), upperIs(own...)},
		{"what upper has as a directory", impl.CopyUp(both, layerOf(dirAt("/a")), "/a"), upperIs(dirAt("/a"))},
		{"what upper has as white", impl.CopyUp(both, own, "/a/c"), upperStays(own, impl.ErrNone)},
		{"what upper hides", impl.CopyUp(tree, own, "/a/c/d"), upperStays(own, impl.ErrNone)},
		{"what a lower hides", impl.CopyUp(both, nil, "/a/b"), upperStays(nil, impl.ErrNone)},
		{"what is nowhere", impl.CopyUp(tree, nil, "/b"), upperStays(nil, impl.ErrNone)},
		{"what is below a file", impl.CopyUp(file, nil, "/a/b"), upperStays(nil, impl.ErrNone)},
	})
	for _, lowers := range [][][]impl.Entry{file, tree, both, append(both, tree...)} {
		for _, upper := range [][]impl.Entry{nil, own, layerOf(dirAt("/a")), layerOf(whiteAt("/a"))} {
			for _, p := range []string{"/a", "/a/b", "/a/c", "/a/c/d", "/b"} {
				wantMount(t, lowers, upper, p, "x")
			}
		}
	}
}

func TestFilesOfAllSizesOver(t *testing.T) {
	low := [][]impl.Entry{layerOf(dirAt("/a"), fileAt("/a/b", "old bytes, of two"), fileAt("/c", "c"))}
	for _, upper := range [][]impl.Entry{nil, layerOf(dirAt("/a"), fileAt("/a/b", "newer")), layerOf(whiteAt("/c"))} {
		for _, p := range []string{"/a/b", "/a/c", "/b", "/c"} {
			for n := range impl.MaxBytes + 1 {
				data := string(countedBytes(n))
				got := impl.WriteOver(low, upper, p, []byte(data))
				wantAnswer(t, "what is written", impl.LookOver(layersUnder(low, got.Upper), p), impl.LayerResult{Layer: layerOf(fileAt(p, data))})
				wantOneMount(t, func() string { return fmt.Sprintf("%d bytes to %s", n, p) }, got, writeOverByHand(low, upper, p, []byte(data)))
			}
			wantAnswer(t, "no bytes", impl.WriteOver(low, upper, p, nil), writeOverByHand(low, upper, p, nil))
		}
	}
}

// TestUpperOfMaxEntries: upper has room for all, for a part of what is filled up, for that alone, and for nothing.
func TestUpperOfMaxEntries(t *testing.T) {
	low := [][]impl.Entry{layerOf(dirAt("/a"), dirAt("/a/b"), fileAt("/a/b/c", "low"), fileAt("/a/d", "low"), dirAt("/aa"), fileAt("/ab", "low"))}
	x := []byte("x")
	for n := range 13 {
		upper := numberedFiles("m", n)
		for _, k := range []struct {
			needs int
			name  string
			got   impl.MountResult
			put   []impl.Entry
		}{
			{1, "write at the top", impl.WriteOver(low, upper, "/b", x), layerOf(fileAt("/b", "x"))},
			{1, "write over a lower's", impl.WriteOver(low, upper, "/ab", x), layerOf(fileAt("/ab", "x"))},
			{1, "make at the top", impl.MakeOver(low, upper, "/b"), layerOf(dirAt("/b"))},
			{1, "remove at the top", impl.RemoveOver(low, upper, "/ab"), layerOf(whiteAt("/ab"))},
			{1, "copy up at the top", impl.CopyUp(low, upper, "/a"), layerOf(dirAt("/a"))},
			{2, "write below", impl.WriteOver(low, upper, "/a/e", x), layerOf(dirAt("/a"), fileAt("/a/e", "x"))},
			{2, "make below", impl.MakeOver(low, upper, "/a/e"), layerOf(dirAt("/a"), dirAt("/a/e"))},
			{2, "remove below", impl.RemoveOver(low, upper, "/a/d"), layerOf(dirAt("/a"), whiteAt("/a/d"))},
			{2, "copy up below", impl.CopyUp(low, upper, "/a/d"), layerOf(dirAt("/a"), fileAt("/a/d", "low"))},
			{3, "write two below", impl.WriteOver(low, upper, "/a/b/d", x), layerOf(dirAt("/a"), dirAt("/a/b"), fileAt("/a/b/d", "x"))},
			{3, "make two below", impl.MakeOver(low, upper, "/a/b/d"), layerOf(dirAt("/a"), dirAt("/a/b"), dirAt("/a/b/d"))},
			{3, "remove two below", impl.RemoveOver(low, upper, "/a/b/c"), layerOf(dirAt("/a"), dirAt("/a/b"), whiteAt("/a/b/c"))},
			{3, "copy up two below", impl.CopyUp(low, upper, "/a/b/c"), layerOf(dirAt("/a"), dirAt("/a/b"), fileAt("/a/b/c", "low"))},
		} {
			want := upperIs(slices.Concat(k.put, upper)...)
			if n+k.needs > 12 {
				want = upperStays(upper, impl.ErrMany)
			}
			wantAnswer(t, fmt.Sprintf("%s, with %d", k.name, n), k.got, want)
		}
		for _, p := range []string{"/a", "/a/b", "/a/b/c", "/a/b/d", "/a/d", "/a/e", "/aa", "/aa/b", "/ab", "/ab/c", "/b", "/b/c", "/ma", "/mb/c"} {
			wantMount(t, low, upper, p, "x")
		}
	}
}

// TestFullUpperThatNeedsNoRoom: what takes the place of an entry, or is gone, needs none; and other Replies come ahead of ErrMany.
func TestFullUpperThatNeedsNoRoom(t *testing.T) {
	full := slices.Concat(layerOf(dirAt("/a"), fileAt("/a/b", "b"), opaqueAt("/c"), fileAt("/d", ""), whiteAt("/e"), dirAt("/f"), whiteAt("/f/g")), numberedFiles("m", 5))
	low := [][]impl.Entry{layerOf(dirAt("/a"), fileAt("/a/b", "low"), dirAt("/e"), fileAt("/e/f", ""), dirAt("/f"), fileAt("/f/g", ""), fileAt("/h", ""), dirAt("/i"), fileAt("/i/j", ""))}
	x := []byte("x")
	with := func(at int, e impl.Entry) impl.MountResult {
		return upperIs(slices.Concat(full[:at], layerOf(e), full[at+1:])...)
	}
	wantSteps(t, []mountStep{
		{"write anew", impl.WriteOver(low, full, "/d", x), with(3, fileAt("/d", "x"))},
		{"write anew below", impl.WriteOver(low, full, "/a/b", x), with(1, fileAt("/a/b", "x"))},
		{"write where it is white", impl.WriteOver(low, full, "/e", x), with(4, fileAt("/e", "x"))},
		{"make where it is white", impl.MakeOver(low, full, "/e"), with(4, opaqueAt("/e"))},
		{"make where it is white below", impl.MakeOver(low, full, "/f/g"), with(6, opaqueAt("/f/g"))},
		{"remove what is in both", impl.RemoveOver(low, full, "/a/b"), with(1, whiteAt("/a/b"))},
		{"remove what is in upper alone", impl.RemoveOver(low, full, "/d"), upperIs(slices.Concat(full[:3], full[4:])...)},
		{"remove a directory of whites", impl.RemoveOver(low, full, "/f"), upperIs(slices.Concat(full[:5], layerOf(whiteAt("/f")), full[7:])...)},
		{"copy up of what upper has", impl.CopyUp(low, full, "/a/b"), upperIs(full...)},
		{"write a new path", impl.WriteOver(low, full, "/b", x), upperStays(full, impl.ErrMany)},
		{"make a new path", impl.MakeOver(low, full, "/b"), upperStays(full, impl.ErrMany)},
		{"remove a path of a lower alone", impl.RemoveOver(low, full, "/h"), upperStays(full, impl.ErrMany)},
		{"copy up of a path of a lower alone", impl.CopyUp(low, full, "/h"), upperStays(full, impl.ErrMany)},
		{"write below nothing", impl.WriteOver(low, full, "/z/z", x), upperStays(full, impl.ErrNone)},
		{"write below a file", impl.WriteOver(low, full, "/h/z", x), upperStays(full, impl.ErrDir)},
		{"write to a directory", impl.WriteOver(low, full, "/i", x), upperStays(full, impl.ErrDir)},
		{"make below nothing", impl.MakeOver(low, full, "/z/z"), upperStays(full, impl.ErrNone)},
		{"make below a file", impl.MakeOver(low, full, "/h/z"), upperStays(full, impl.ErrDir)},
		{"make what is there", impl.MakeOver(low, full, "/i"), upperStays(full, impl.ErrTaken)},
		{"remove what is not there", impl.RemoveOver(low, full, "/z"), upperStays(full, impl.ErrNone)},
		{"remove what has something", impl.RemoveOver(low, full, "/i"), upperStays(full, impl.ErrForm)},
		{"copy up of what is not there", impl.CopyUp(low, full, "/z"), upperStays(full, impl.ErrNone)},
	})
	for _, p := range []string{"/a", "/a/b", "/a/c", "/b", "/c", "/c/d", "/d", "/e", "/e/f", "/f", "/f/g", "/f/h", "/h", "/i", "/i/j", "/i/k", "/ma", "/z/z"} {
		wantMount(t, low, full, p, "x")
	}
}

// TestViewOfMaxItems: a view has room for 40; what is written to upper is counted there alone.
func TestViewOfMaxItems(t *testing.T) {
	low := [][]impl.Entry{numberedFiles("l", 12), numberedFiles("m", 12), numberedFiles("n", 12)}
	for n := range 13 {
		upper := numberedFiles("o", n)
		wantView(t, low, upper)
		wantMount(t, low, upper, "/z", "x")
		wantMount(t, low, upper, "/la", "x")
		want := impl.TreeResult{Tree: slices.Concat(low[0], low[1], low[2], upper)}
		if n > 4 {
			want = impl.TreeResult{Code: impl.ErrMany}
		}
		wantAnswer(t, fmt.Sprintf("the view of 36 and %d", n), impl.ViewOver(low, upper), want)
	}
	upper := numberedFiles("o", 11)
	wantAnswer(t, "write where the view has 47", impl.WriteOver(low, upper, "/z", []byte("x")), upperIs(slices.Concat(upper, layerOf(fileAt("/z", "x")))...))
	wantAnswer(t, "make where the view has 47", impl.MakeOver(low, upper, "/z"), upperIs(slices.Concat(upper, layerOf(dirAt("/z")))...))
	wantAnswer(t, "remove where the view has 47", impl.RemoveOver(low, upper, "/la"), upperIs(slices.Concat(layerOf(whiteAt("/la")), upper)...))
	wantAnswer(t, "copy up where the view has 47", impl.CopyUp(low, upper, "/la"), upperIs(slices.Concat(low[0][:1], upper)...))
}

func TestViewOverKnown(t *testing.T) {
	low := layerOf(dirAt("/a"), fileAt("/a/b", "low"), fileAt("/c", "low"))
	for _, k := range []struct {
		name   string
		lowers [][]impl.Entry
		upper  []impl.Entry
		view   []impl.Entry
	}{
		{"nothing", nil, nil, nil},
		{"upper alone", nil, low, low},
		{"a lower alone", [][]impl.Entry{low}, nil, low},
		{"the lowest of three alone", [][]impl.Entry{low, nil, nil}, nil, low},
		{"white above", [][]impl.Entry{low}, layerOf(whiteAt("/a")), layerOf(fileAt("/c", "low"))},
		{"white below", [][]impl.Entry{layerOf(whiteAt("/a"))}, low, low},
		{"opaque above", [][]impl.Entry{low}, layerOf(opaqueAt("/a")), layerOf(dirAt("/a"), fileAt("/c", "low"))},
		{"a file of each", [][]impl.Entry{layerOf(fileAt("/a", "1")), layerOf(fileAt("/b", "2")), layerOf(fileAt("/c", "3"))}, layerOf(fileAt("/d", "4")), layerOf(fileAt("/a", "1"), fileAt("/b", "2"), fileAt("/c", "3"), fileAt("/d", "4"))},
		{"one file of all", [][]impl.Entry{layerOf(fileAt("/a", "1")), layerOf(fileAt("/a", "2")), layerOf(fileAt("/a", "3"))}, layerOf(fileAt("/a", "4")), layerOf(fileAt("/a", "4"))},
		{"one file of all lowers", [][]impl.Entry{layerOf(fileAt("/a", "1")), layerOf(fileAt("/a", "2")), layerOf(fileAt("/a", "3"))}, nil, layerOf(fileAt("/a", "3"))},
	} {
		wantAnswer(t, "the view of "+k.name, impl.ViewOver(k.lowers, k.upper), impl.TreeResult{Tree: k.view})
		wantView(t, k.lowers, k.upper)
	}
}

// wantMountCode asks all functions that take a path for one code, with nothing else in the answer.
func wantMountCode(t *testing.T, name string, lowers [][]impl.Entry, upper []impl.Entry, p string, data []byte, code int64) {
	t.Helper()
	want := impl.MountResult{Code: code}
	wantAnswer(t, "WriteOver "+name, impl.WriteOver(lowers, upper, p, data), want)
	wantAnswer(t, "MakeOver "+name, impl.MakeOver(lowers, upper, p), want)
	wantAnswer(t, "RemoveOver "+name, impl.RemoveOver(lowers, upper, p), want)
	wantAnswer(t, "CopyUp "+name, impl.CopyUp(lowers, upper, p), want)
}

// TestFaultsOfLowersAndUpper: the layers come first, the lowest ahead, and their number ahead of all.
func TestFaultsOfLowersAndUpper(t *testing.T) {
	right, lists := layerOf(dirAt("/a"), fileAt("/a/b", "")), faultyLists()
	paths := []string{"/a", "/a/b", "/a/c", "/q", "/q/q", "", "/", "/a/", "/abcde", "/a/b/c/d"}
	for i, f := range lists {
		g := lists[(i*7+3)%len(lists)]
		for j, k := range []struct {
			name   string
			lowers [][]impl.Entry
			upper  []impl.Entry
			code   int64
		}{
			{"in upper alone", nil, f.layer, f.code},
			{"in upper", [][]impl.Entry{right}, f.layer, f.code},
			{"in upper above three", [][]impl.Entry{right, nil, right}, f.layer, f.code},
			{"in a lower", [][]impl.Entry{f.layer}, right, f.code},
			{"in a lower, upper of nothing", [][]impl.Entry{f.layer}, nil, f.code},
			{"in the second of three", [][]impl.Entry{right, f.layer, right}, right, f.code},
			{"in the last of three", [][]impl.Entry{nil, right, f.layer}, right, f.code},
			{"in a lower ahead of " + g.name + " in upper", [][]impl.Entry{right, f.layer}, g.layer, f.code},
			{"in a lower ahead of " + g.name + " in another one", [][]impl.Entry{f.layer, g.layer}, right, f.code},
			{"in upper above four", [][]impl.Entry{nil, nil, nil, nil}, f.layer, impl.ErrMany},
			{"in the first of four", [][]impl.Entry{f.layer, right, right, right}, right, impl.ErrMany},
		} {
			wantAnswer(t, "ViewOver, "+f.name+" "+k.name, impl.ViewOver(k.lowers, k.upper), impl.TreeResult{Code: k.code})
			p, long := paths[(i+j)%len(paths)], countedBytes((i+j)%2*25)
			wantMountCode(t, f.name+" "+k.name+" of "+p, k.lowers, k.upper, p, long, k.code)
		}
	}
	for n := range 12 {
		lowers := slices.Repeat([][]impl.Entry{right}, n)
		for _, upper := range [][]impl.Entry{nil, right, layerOf(impl.Entry{})} {
			if n <= 3 {
				wantView(t, lowers, upper)
				wantMount(t, lowers, upper, "/a/c", "x")
				continue
			}
			wantAnswer(t, fmt.Sprint("ViewOver of ", n), impl.ViewOver(lowers, upper), impl.TreeResult{Code: impl.ErrMany})
			for _, p := range paths {
				wantMountCode(t, fmt.Sprint("of ", n, " lowers"), lowers, upper, p, nil, impl.ErrMany)
			}
		}
	}
}

// TestFaultsOfPathsOver: behind the layers comes the path, ahead of the data and of any Reply.
func TestFaultsOfPathsOver(t *testing.T) {
	low, full := [][]impl.Entry{layerOf(dirAt("/a"), dirAt("/a/b"), fileAt("/a/b/c", ""))}, fullLayer(12)
	for _, f := range faultyPaths() {
		for i, upper := range [][]impl.Entry{nil, full, layerOf(whiteAt("/a")), layerOf(fileAt("/a", ""))} {
			wantMountCode(t, "of "+shortText(f.path), low[:i%2], upper, f.path, nil, f.code)
			wantMountCode(t, "of "+shortText(f.path)+", with too many bytes", low, upper, f.path, countedBytes(25), f.code)
		}
	}
}

// TestTooManyBytesOver: behind the path come the bytes, as a code, ahead of any Reply.
func TestTooManyBytesOver(t *testing.T) {
	low := [][]impl.Entry{layerOf(dirAt("/a"), fileAt("/a/b", ""), fileAt("/c", ""))}
	many := impl.MountResult{Code: impl.ErrMany}
	for _, upper := range [][]impl.Entry{nil, layerOf(whiteAt("/a")), layerOf(fileAt("/a", "")), numberedFiles("m", 12)} {
		for _, p := range []string{"/a", "/a/b", "/a/c", "/b", "/b/c", "/c", "/c/d", "/z"} {
			for _, n := range []int{25, 26, 32, 256, 257, 1 << 16} {
				wantAnswer(t, fmt.Sprint("WriteOver of ", n, " bytes to ", p), impl.WriteOver(low, upper, p, countedBytes(n)), many)
			}
			wantMount(t, low, upper, p, string(countedBytes(24)))
		}
	}
}

// TestMountOfAllSmall: each small layer as upper over some others, and as a lower below some others.
func TestMountOfAllSmall(t *testing.T) {
	layers, paths := rightLayers(), pathsOfTrees()
	at := func(i int) []impl.Entry { return layers[i%len(layers)] }
	for i, layer := range layers {
		for j, stack := range [][][]impl.Entry{
			{layer}, {withOtherBytes(at(i*7 + 3)), layer}, {layer, withOtherBytes(at(i*13 + 5))},
			{at(i*11 + 1), withOtherBytes(at(i*17 + 9)), layer}, {at(i*29 + 11), layer, withOtherBytes(at(i*5 + 7)), at(i*3 + 2)},
		} {
			lowers, upper := stack[:len(stack)-1], stack[len(stack)-1]
			wantView(t, lowers, upper)
			for k := (i + j) % 3; k < len(paths); k += 3 {
				wantMount(t, lowers, upper, paths[k], "new")
			}
		}
	}
}

// mountSteps: what is done to the layer above, and to the tree.
var mountSteps = []struct {
	name  string
	above func(lowers [][]impl.Entry, upper []impl.Entry, p string, data []byte) impl.MountResult
	tree  func(tree []impl.Entry, p string, data []byte) impl.TreeResult
}{
	{"write", impl.WriteOver, impl.WriteTree},
	{"make", func(lowers [][]impl.Entry, upper []impl.Entry, p string, _ []byte) impl.MountResult {
		return impl.MakeOver(lowers, upper, p)
	}, func(tree []impl.Entry, p string, _ []byte) impl.TreeResult { return impl.MakeDir(tree, p) }},
	{"remove", func(lowers [][]impl.Entry, upper []impl.Entry, p string, _ []byte) impl.MountResult {
		return impl.RemoveOver(lowers, upper, p)
	}, func(tree []impl.Entry, p string, _ []byte) impl.TreeResult { return impl.RemoveTree(tree, p) }},
	{"copy", func(lowers [][]impl.Entry, upper []impl.Entry, p string, _ []byte) impl.MountResult {
		return impl.CopyUp(lowers, upper, p)
	}, func(tree []impl.Entry, p string, _ []byte) impl.TreeResult {
		return impl.TreeResult{Reply: impl.StatTree(tree, p).Code, Tree: tree}
	}},
}

// wantNoRoom: an entry of the path, with what is missing above it, would be too many.
func wantNoRoom(t *testing.T, name func() string, got impl.MountResult, upper []impl.Entry, p string) {
	t.Helper()
	with := layerByPath(upper)
	for ; p != "/"; p = path.Dir(p) {
		with[p] = dirAt(p)
	}
	if len(with) <= 12 || got.Code != impl.OK || !sameEntries(got.Upper, upper) {
		t.Fatalf("%s: there is room, or upper turned: %s", name(), told(got))
	}
}

// TestManyStepsOfMounts goes on from upper to upper beside a tree that knows nothing of layers.
func TestManyStepsOfMounts(t *testing.T) {
	spread := uint32(53)
	next := func(n int) int {
		spread = spread*1664525 + 1013904223
		return int(spread>>8) % n
	}
	paths, small := textsOver([]string{"/a", "/b", "/ab"}, "", 3), rightLayers()
	replies := map[string]int{}
	for range 250 {
		lowers := [][]impl.Entry{small[next(len(small))], withOtherBytes(small[next(len(small))]), fullLayer(next(13))}[next(4):]
		var upper []impl.Entry
		tree := impl.ViewOver(lowers, upper).Tree
		for range 100 {
			p, step := paths[next(len(paths))], mountSteps[[]int{0, 0, 1, 1, 1, 1, 2, 3}[next(8)]]
			if len(tree) > 0 && next(3) > 0 {
				p = tree[next(len(tree))].Path
				if next(3) == 0 && strings.Count(p, "/") < 3 {
					p += "/d"
				}
			}
			data := countedBytes(next(25))
			got, want := step.above(lowers, upper, p, data), step.tree(tree, p, data)
			name := func() string { return step.name + " " + p + " in " + told(upper) + " over " + told(lowers) }
			replies[fmt.Sprint(step.name, " ", got.Reply)]++
			if got.Reply == impl.ErrMany {
				wantNoRoom(t, name, got, upper, p)
				continue
			}
			if got.Code != impl.OK || got.Reply != want.Reply {
				t.Fatalf("%s: %s, but in the tree %s", name(), told(got), told(want))
			}
			wantOneTree(t, name, impl.ViewOver(lowers, got.Upper), impl.TreeResult{Tree: want.Tree})
			upper, tree = got.Upper, want.Tree
		}
	}
	for _, reply := range []string{"write 0", "write 2", "write 4", "write 9", "make 0", "make 2", "make 4", "make 7", "make 9", "remove 0", "remove 1", "remove 2", "remove 4", "copy 0", "copy 2", "copy 4"} {
		if replies[reply] < 25 {
			t.Errorf("%s came %d times alone", reply, replies[reply])
		}
	}
}
