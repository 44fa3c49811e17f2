package tests

import (
	"cmp"
	"fmt"
	"maps"
	"regexp"
	"slices"
	"strings"
	"testing"

	"loop.example/g00299/impl"
)

// snapName: what is a name, told apart from the program.
var snapName = regexp.MustCompile(`^[a-z]{1,4}$`)

func doneSnap(name string, parent string, layer ...impl.Entry) impl.Snap {
	return impl.Snap{Name: name, Parent: parent, Kind: 2, Layer: layer}
}

func activeSnap(name string, parent string, layer ...impl.Entry) impl.Snap {
	return impl.Snap{Name: name, Parent: parent, Kind: 1, Layer: layer}
}

func leasedSnap(s impl.Snap) impl.Snap {
	s.Lease = true
	return s
}

func snapsOf(list ...impl.Snap) []impl.Snap { return list }

func snapsCode(code int64) impl.SnapsResult { return impl.SnapsResult{Code: code} }

func snapsKept(list []impl.Snap, reply int64) impl.SnapsResult {
	return impl.SnapsResult{Reply: reply, Snaps: list}
}

func snapsAre(list ...impl.Snap) impl.SnapsResult { return impl.SnapsResult{Snaps: list} }

// snapsByName: a list as a map, so that it has no order of its own.
func snapsByName(list []impl.Snap) map[string]impl.Snap {
	snaps := map[string]impl.Snap{}
	for _, s := range list {
		snaps[s.Name] = s
	}
	return snaps
}

func sortedSnaps(snaps map[string]impl.Snap) []impl.Snap {
	return slices.SortedFunc(maps.Values(snaps), func(a, b impl.Snap) int { return cmp.Compare(a.Name, b.Name) })
}

// withSnapByHand: the list with s in place of the one of its name, if there is one.
func withSnapByHand(list []impl.Snap, s impl.Snap) []impl.Snap {
	snaps := snapsByName(list)
	snaps[s.Name] = s
	return sortedSnaps(snaps)
}

// stepsUp: how many snapshots one comes to from name on; where that does not end, more than any list has.
func stepsUp(list []impl.Snap, name string) int {
	snaps, n := snapsByName(list), 0
	for s, there := snaps[name]; there && n < 100; s, there = snaps[s.Parent] {
		n++
	}
	return n
}

// snapsFaultByHand looks for all faults, and takes the one whose rank is the lowest.
func snapsFaultByHand(list []impl.Snap) int64 {
	var found []foundFault
	note := func(is bool, code int64, rank ...int) {
		if is {
			found = append(found, foundFault{[3]int(rank), code})
		}
	}
	snaps := snapsByName(list)
	note(len(list) > 10, impl.ErrMany, 0, 0, 0)
	for i, s := range list {
		note(!snapName.MatchString(s.Name), impl.ErrText, 1, i, 0)
		note(s.Kind != 1 && s.Kind != 2 || i > 0 && strings.Compare(list[max(i, 1)-1].Name, s.Name) >= 0, impl.ErrForm, 1, i, 1)
		code := layerFaultByHand(s.Layer)
		note(code != impl.OK, code, 1, i, 2)
		up, there := snaps[s.Parent]
		note(s.Parent != "" && !there, impl.ErrNone, 2, i, 0)
		note(s.Parent != "" && there && up.Kind == 1, impl.ErrState, 2, i, 1)
		note(stepsUp(list, s.Name) > 4, impl.ErrMany, 2, i, 2)
	}
	return firstFault(found)
}

// layersUpTo: the layers from the uppermost parent down to the snapshot itself.
func layersUpTo(list []impl.Snap, name string) [][]impl.Entry {
	s, there := snapsByName(list)[name]
	if !there {
		return nil
	}
	return append(layersUpTo(list, s.Parent), s.Layer)
}

func chainByHand(list []impl.Snap, name string) impl.LayersResult {
	if code := snapsFaultByHand(list); code != impl.OK {
		return impl.LayersResult{Code: code}
	}
	layers := layersUpTo(list, name)
	if len(layers) == 0 {
		return impl.LayersResult{Code: impl.ErrNone}
	}
	return impl.LayersResult{Layers: layers}
}

// growByHand: what AddSnap of s has to answer, and PrepareSnap, where s is active and has no layer.
func growByHand(list []impl.Snap, s impl.Snap) impl.SnapsResult {
	if code := cmp.Or(snapsFaultByHand(list), layerFaultByHand(s.Layer)); code != impl.OK {
		return snapsCode(code)
	}
	snaps := snapsByName(list)
	_, taken := snaps[s.Name]
	up, there := snaps[s.Parent]
	switch {
	case !snapName.MatchString(s.Name):
		return snapsKept(list, impl.ErrText)
	case taken:
		return snapsKept(list, impl.ErrTaken)
	case s.Parent != "" && !there:
		return snapsKept(list, impl.ErrNone)
	case s.Parent != "" && up.Kind == 1:
		return snapsKept(list, impl.ErrState)
	case len(list) == 10 || stepsUp(list, s.Parent) > 3:
		return snapsKept(list, impl.ErrMany)
	}
	return snapsAre(withSnapByHand(list, s)...)
}

func commitByHand(list []impl.Snap, name string) impl.SnapsResult {
	if code := snapsFaultByHand(list); code != impl.OK {
		return snapsCode(code)
	}
	s, there := snapsByName(list)[name]
	if !there {
		return snapsKept(list, impl.ErrNone)
	}
	if s.Kind == 2 {
		return snapsKept(list, impl.ErrState)
	}
	s.Kind = 2
	return snapsAre(withSnapByHand(list, s)...)
}

func removeSnapByHand(list []impl.Snap, name string) impl.SnapsResult {
	if code := snapsFaultByHand(list); code != impl.OK {
		return snapsCode(code)
	}
	snaps := snapsByName(list)
	s, there := snaps[name]
	if !there {
		return snapsKept(list, impl.ErrNone)
	}
	for _, other := range list {
		if other.Parent == name || s.Lease {
			return snapsKept(list, impl.ErrTaken)
		}
	}
	delete(snaps, name)
	return snapsAre(sortedSnaps(snaps)...)
}

func leaseByHand(list []impl.Snap, name string, lease bool) impl.SnapsResult {
	if code := snapsFaultByHand(list); code != impl.OK {
		return snapsCode(code)
	}
	s, there := snapsByName(list)[name]
	if !there {
		return snapsKept(list, impl.ErrNone)
	}
	s.Lease = lease
	return snapsAre(withSnapByHand(list, s)...)
}

// mountByHand: what is done to upper by one of the three kinds.
func mountByHand(lowers [][]impl.Entry, upper []impl.Entry, p string, data []byte, kind int64) impl.MountResult {
	switch kind {
	case 1:
		return writeOverByHand(lowers, upper, p, data)
	case 2:
		return makeOverByHand(lowers, upper, p)
	default:
		return removeOverByHand(lowers, upper, p)
	}
}

func writeSnapByHand(list []impl.Snap, name string, p string, data []byte, kind int64) impl.SnapsResult {
	if code := snapsFaultByHand(list); code != impl.OK {
		return snapsCode(code)
	}
	if kind != 1 && kind != 2 && kind != 3 {
		return snapsCode(impl.ErrForm)
	}
	s, there := snapsByName(list)[name]
	if !there {
		return snapsKept(list, impl.ErrNone)
	}
	if s.Kind == 2 {
		return snapsKept(list, impl.ErrState)
	}
	done := mountByHand(layersUpTo(list, s.Parent), s.Layer, p, data, kind)
	if reply := cmp.Or(done.Code, done.Reply); reply != impl.OK {
		return snapsKept(list, reply)
	}
	s.Layer = done.Upper
	return snapsAre(withSnapByHand(list, s)...)
}

// treeOfSnap: the tree of what a snapshot comes to.
func treeOfSnap(list []impl.Snap, name string) impl.TreeResult {
	chain := impl.ChainOf(list, name)
	if chain.Code != impl.OK {
		return impl.TreeResult{Code: chain.Code}
	}
	return impl.MergeAll(chain.Layers)
}

// wantOneSnaps holds an answer against the model's, and asks what every answer owes: no fault, and the same list beside a Reply.
func wantOneSnaps(t *testing.T, name func() string, list []impl.Snap, got impl.SnapsResult, want impl.SnapsResult) {
	t.Helper()
	if told(got) != told(want) {
		t.Fatalf("%s in %s: %s, not %s", name(), told(list), told(got), told(want))
	}
	if code := impl.SnapsFault(got.Snaps); code != impl.OK {
		t.Fatalf("%s in %s leaves the fault %d", name(), told(list), code)
	}
	if got.Reply != impl.OK && told(got.Snaps) != told(list) {
		t.Fatalf("%s in %s: the list does not stay, but is %s", name(), told(list), told(got))
	}
}

// wantOthersStay asks that each snapshot but one has the same in it, and the same chain, and so the same tree.
func wantOthersStay(t *testing.T, what func() string, before []impl.Snap, after []impl.Snap, name string) {
	t.Helper()
	left := snapsByName(after)
	for _, s := range before {
		if s.Name == name {
			continue
		}
		if told(left[s.Name]) != told(s) || told(impl.ChainOf(after, s.Name)) != told(impl.ChainOf(before, s.Name)) {
			t.Fatalf("%s in %s turns %s: %s", what(), told(before), s.Name, told(after))
		}
	}
}

// wantGrown asks both functions that make a snapshot: of the model, and of the tree of its parent.
func wantGrown(t *testing.T, list []impl.Snap, name string, parent string, layer []impl.Entry) {
	t.Helper()
	named := func(what string) func() string {
		return func() string { return fmt.Sprintf("%s %q on %q", what, name, parent) }
	}
	got := impl.PrepareSnap(list, name, parent)
	wantOneSnaps(t, named("PrepareSnap"), list, got, growByHand(list, activeSnap(name, parent)))
	if got.Code == impl.OK && got.Reply == impl.OK {
		want := impl.TreeResult{}
		if parent != "" {
			want = treeOfSnap(list, parent)
		}
		wantOneTree(t, named("the tree of PrepareSnap"), treeOfSnap(got.Snaps, name), want)
		wantOthersStay(t, named("PrepareSnap"), list, got.Snaps, name)
	}
	added := impl.AddSnap(list, name, parent, layer)
	wantOneSnaps(t, named("AddSnap"), list, added, growByHand(list, doneSnap(name, parent, layer...)))
	if added.Code == impl.OK && added.Reply == impl.OK {
		if below := treeOfSnap(got.Snaps, name); below.Code == impl.OK {
			wantOneTree(t, named("the tree of AddSnap"), treeOfSnap(added.Snaps, name), impl.MergeLayer(below.Tree, layer))
		}
		wantOthersStay(t, named("AddSnap"), list, added.Snaps, name)
	}
}

// wantTurned asks the functions that take a name alone.
func wantTurned(t *testing.T, list []impl.Snap, name string) {
	t.Helper()
	named := func(what string) func() string {
		return func() string { return fmt.Sprintf("%s %q", what, name) }
	}
	if got, want := impl.ChainOf(list, name), chainByHand(list, name); told(got) != told(want) {
		t.Fatalf("ChainOf %q in %s: %s, not %s", name, told(list), told(got), told(want))
	}
	before := told(treeOfSnap(list, name))
	for _, one := range []struct {
		what  string
		got   impl.SnapsResult
		want  impl.SnapsResult
		stays bool
	}{
		{"CommitSnap", impl.CommitSnap(list, name), commitByHand(list, name), true},
		{"RemoveSnap", impl.RemoveSnap(list, name), removeSnapByHand(list, name), false},
		{"LeaseSnap, true,", impl.LeaseSnap(list, name, true), leaseByHand(list, name, true), true},
		{"LeaseSnap, false,", impl.LeaseSnap(list, name, false), leaseByHand(list, name, false), true},
	} {
		wantOneSnaps(t, named(one.what), list, one.got, one.want)
		if one.got.Code != impl.OK {
			continue
		}
		wantOthersStay(t, named(one.what), list, one.got.Snaps, name)
		if one.stays && told(treeOfSnap(one.got.Snaps, name)) != before {
			t.Fatalf("%s %q in %s turns its tree", one.what, name, told(list))
		}
	}
}

// treeKinds: what each kind of WriteSnap does to a tree that knows nothing of layers.
func treeKinds(tree []impl.Entry, p string, data []byte, kind int64) impl.TreeResult {
	switch kind {
	case 1:
		return impl.WriteTree(tree, p, data)
	case 2:
		return impl.MakeDir(tree, p)
	default:
		return impl.RemoveTree(tree, p)
	}
}

// wantWritten asks each kind at one path: of the model, of the tree of the snapshot, and that no other one turns.
func wantWritten(t *testing.T, list []impl.Snap, name string, p string, data string) {
	t.Helper()
	for kind := int64(1); kind <= 3; kind++ {
		what := func() string { return fmt.Sprintf("WriteSnap %d of %q to %q", kind, p, name) }
		got := impl.WriteSnap(list, name, p, []byte(data), kind)
		wantOneSnaps(t, what, list, got, writeSnapByHand(list, name, p, []byte(data), kind))
		if got.Code != impl.OK {
			continue
		}
		wantOthersStay(t, what, list, got.Snaps, name)
		before := treeOfSnap(list, name)
		if before.Code != impl.OK || snapsByName(list)[name].Kind != 1 || got.Reply == impl.ErrMany {
			continue
		}
		want := treeKinds(before.Tree, p, []byte(data), kind)
		if cmp.Or(want.Code, want.Reply) == impl.ErrMany {
			continue
		}
		if got.Reply != cmp.Or(want.Code, want.Reply) {
			t.Fatalf("%s in %s: %s, but in the tree %s", what(), told(list), told(got), told(want))
		}
		if want.Code == impl.OK {
			wantOneTree(t, func() string { return "the tree behind " + what() }, treeOfSnap(got.Snaps, name), impl.TreeResult{Tree: want.Tree})
		}
	}
}

// namesOfPlaces: names that rise with their number, of one byte and of four.
func namesOfPlaces(n int) []string {
	var names []string
	for i := range n {
		names = append(names, []string{string(rune('b' + i)), string(rune('b'+i)) + "xyz"}[i%2])
	}
	return names
}

// chainInOrder: a chain whose members stand in the list at the places of order, the first of them the one without a parent.
func chainInOrder(order ...int) []impl.Snap {
	names, snaps := namesOfPlaces(len(order)), map[string]impl.Snap{}
	parent := ""
	for depth, place := range order {
		s := doneSnap(names[place], parent, layersToChain()[depth%4]...)
		snaps[s.Name], parent = s, s.Name
	}
	return sortedSnaps(snaps)
}

// layersToChain: four layers, each of which shows that it lies over those ahead of it.
func layersToChain() [][]impl.Entry {
	return [][]impl.Entry{
		layerOf(dirAt("/a"), fileAt("/a/b", "one"), fileAt("/c", "one"), dirAt("/d"), fileAt("/d/e", "one")),
		layerOf(dirAt("/a"), fileAt("/a/b", "two, longer"), whiteAt("/c"), fileAt("/f", "two")),
		layerOf(opaqueAt("/d"), fileAt("/d/g", "three"), fileAt("/f", "three")),
		layerOf(dirAt("/a"), dirAt("/a/h"), whiteAt("/f")),
	}
}

// orders: all orders of n places.
func orders(n int) [][]int {
	if n == 0 {
		return [][]int{nil}
	}
	var out [][]int
	for _, less := range orders(n - 1) {
		for at := range n {
			out = append(out, slices.Insert(slices.Clone(less), at, n-1))
		}
	}
	return out
}

// someSnaps: chains of one to four, parents that stand ahead of their children and behind them, active ones and done ones, with a lease and without.
func someSnaps() []impl.Snap {
	layers := layersToChain()
	return snapsOf(
		doneSnap("abcd", "b", layers[1]...), leasedSnap(doneSnap("b", "", layers[0]...)), doneSnap("c", "abcd", layers[2]...),
		activeSnap("d", "c", layers[3]...), leasedSnap(doneSnap("dd", "c")), leasedSnap(activeSnap("e", "")), doneSnap("f", "", fullLayer(12)...), activeSnap("zzzz", "b", fullLayer(12)...),
	)
}

func rightSnapLists() [][]impl.Snap {
	lists := [][]impl.Snap{
		nil, {}, {activeSnap("a", "")}, {doneSnap("a", "")}, {leasedSnap(doneSnap("zzzz", ""))}, {leasedSnap(activeSnap("aaaa", "", fullLayer(12)...))}, {doneSnap("z", "", fullLayer(1)...)},
		someSnaps(), {doneSnap("a", "", fullLayer(12)...), doneSnap("aa", "a", fullLayer(12)...), doneSnap("aaa", "aa", fullLayer(12)...), activeSnap("aaaa", "aaa", fullLayer(12)...)},
	}
	for n := 1; n <= 4; n++ {
		for _, order := range orders(n) {
			lists = append(lists, chainInOrder(order...))
		}
	}
	var roots, star, pairs, deep []impl.Snap
	names := namesOfPlaces(10)
	for i, name := range names {
		roots = append(roots, impl.Snap{Name: name, Kind: int64(1 + i%2), Lease: i%3 == 0, Layer: fullLayer(i)})
		star = append(star, impl.Snap{Name: name, Parent: names[5], Kind: int64(1 + i%2), Lease: i%4 == 1})
		pairs = append(pairs, impl.Snap{Name: name, Parent: names[9-i], Kind: 1, Lease: i%2 == 0, Layer: layersToChain()[i%4]})
		deep = append(deep, impl.Snap{Name: name, Kind: 2, Parent: names[max(0, i-1)], Layer: layersToChain()[i%4]})
	}
	star[5] = doneSnap(names[5], "", fullLayer(6)...)
	for i := range 5 {
		pairs[9-i] = doneSnap(names[9-i], "", pairs[9-i].Layer...)
		deep[2*i].Parent = []string{"", names[1], "", names[5], names[5]}[i]
	}
	return append(lists, roots, star, pairs, deep, deep[:9], roots[:9])
}

// snapNames: each name of the list, and names that are in none.
func snapNames(list []impl.Snap) []string {
	names := []string{"", "a", "aaaa", "bx", "q", "zzzz", "abcde", "A", "b ", "/b", "é"}
	for _, s := range list {
		names = append(names, s.Name)
	}
	return names
}

func TestSnapBounds(t *testing.T) {
	if impl.SnapActive != 1 || impl.SnapDone != 2 || impl.MaxSnaps != 10 {
		t.Errorf("active is %d, done is %d, MaxSnaps is %d", impl.SnapActive, impl.SnapDone, impl.MaxSnaps)
	}
	longest, most, full := 0, 0, 0
	for _, list := range rightSnapLists() {
		most = max(most, len(list))
		for _, s := range list {
			longest, full = max(longest, stepsUp(list, s.Name)), max(full, len(s.Layer))
		}
	}
	if longest != 4 || most != 10 || full != 12 {
		t.Errorf("the lists come to a chain of %d, to %d snapshots, and to a layer of %d", longest, most, full)
	}
}

func TestSnapsWithoutFault(t *testing.T) {
	for _, list := range rightSnapLists() {
		if code := impl.SnapsFault(list); code != impl.OK {
			t.Errorf("SnapsFault of %s: %d", told(list), code)
		}
		if code := snapsFaultByHand(list); code != impl.OK {
			t.Errorf("the test itself says %d of %s", code, told(list))
		}
	}
	for _, name := range []string{"a", "z", "ab", "zyx", "abcd", "zzzz"} {
		for kind := int64(1); kind <= 2; kind++ {
			if code := impl.SnapsFault(snapsOf(impl.Snap{Name: name, Kind: kind})); code != impl.OK {
				t.Errorf("the name %s and the kind %d: %d", name, kind, code)
			}
		}
	}
}

// TestAllSnapsAtAllNames: each function at each name that a list has and at some that it has not, against the model and the promise.
func TestAllSnapsAtAllNames(t *testing.T) {
	layers, paths := [][]impl.Entry{nil, layersToChain()[1], fullLayer(12), layerOf(opaqueAt("/a")), layerOf(whiteAt("/d"))}, []string{"/a", "/a/b", "/c", "/d", "/d/e", "/d/x", "/f", "/x", "/x/y", "/a/h/i", "/A"}
	for i, list := range rightSnapLists() {
		names := snapNames(list)
		for j, name := range names {
			wantTurned(t, list, name)
			wantWritten(t, list, name, paths[(i+j)%len(paths)], "new bytes")
			for k, parent := range names {
				wantGrown(t, list, name, parent, layers[(i+j+k)%len(layers)])
			}
		}
	}
}

func TestSnapsOfNothing(t *testing.T) {
	layer := layerOf(dirAt("/a"), fileAt("/a/b", "b"))
	for _, list := range [][]impl.Snap{nil, {}} {
		wantAnswer(t, "SnapsFault", impl.SnapsFault(list), int64(impl.OK))
		wantAnswer(t, "ChainOf", impl.ChainOf(list, "a"), impl.LayersResult{Code: impl.ErrNone})
		wantAnswer(t, "ChainOf no name", impl.ChainOf(list, ""), impl.LayersResult{Code: impl.ErrNone})
		wantAnswer(t, "PrepareSnap", impl.PrepareSnap(list, "a", ""), snapsAre(activeSnap("a", "")))
		wantAnswer(t, "PrepareSnap of four bytes", impl.PrepareSnap(list, "abcd", ""), snapsAre(activeSnap("abcd", "")))
		wantAnswer(t, "PrepareSnap without a name", impl.PrepareSnap(list, "", ""), snapsKept(nil, impl.ErrText))
		wantAnswer(t, "PrepareSnap without a name, on something", impl.PrepareSnap(list, "", "a"), snapsKept(nil, impl.ErrText))
		wantAnswer(t, "PrepareSnap on nothing", impl.PrepareSnap(list, "a", "b"), snapsKept(nil, impl.ErrNone))
		wantAnswer(t, "PrepareSnap on itself", impl.PrepareSnap(list, "a", "a"), snapsKept(nil, impl.ErrNone))
		wantAnswer(t, "PrepareSnap on no name", impl.PrepareSnap(list, "a", " "), snapsKept(nil, impl.ErrNone))
		wantAnswer(t, "AddSnap", impl.AddSnap(list, "a", "", layer), snapsAre(doneSnap("a", "", layer...)))
		wantAnswer(t, "AddSnap of nothing", impl.AddSnap(list, "a", "", nil), snapsAre(doneSnap("a", "")))
		wantAnswer(t, "AddSnap of 12 entries", impl.AddSnap(list, "a", "", fullLayer(12)), snapsAre(doneSnap("a", "", fullLayer(12)...)))
		wantAnswer(t, "AddSnap of 13 entries", impl.AddSnap(list, "a", "", fullLayer(13)), snapsCode(impl.ErrMany))
		wantAnswer(t, "AddSnap without a name", impl.AddSnap(list, "", "", layer), snapsKept(nil, impl.ErrText))
		wantAnswer(t, "AddSnap on itself", impl.AddSnap(list, "a", "a", layer), snapsKept(nil, impl.ErrNone))
		for _, name := range []string{"a", ""} {
			wantAnswer(t, "CommitSnap", impl.CommitSnap(list, name), snapsKept(nil, impl.ErrNone))
			wantAnswer(t, "RemoveSnap", impl.RemoveSnap(list, name), snapsKept(nil, impl.ErrNone))
			wantAnswer(t, "LeaseSnap, true", impl.LeaseSnap(list, name, true), snapsKept(nil, impl.ErrNone))
			wantAnswer(t, "LeaseSnap, false", impl.LeaseSnap(list, name, false), snapsKept(nil, impl.ErrNone))
			wantAnswer(t, "WriteSnap", impl.WriteSnap(list, name, "/a", nil, 1), snapsKept(nil, impl.ErrNone))
			wantAnswer(t, "WriteSnap of no kind", impl.WriteSnap(list, name, "/a", nil, 0), snapsCode(impl.ErrForm))
		}
	}
}

// TestNewSnapStandsByItsName: first, between others and last, whichever of the others is its parent.
func TestNewSnapStandsByItsName(t *testing.T) {
	b, f, m := doneSnap("b", "", layersToChain()[0]...), leasedSnap(doneSnap("f", "m", layersToChain()[1]...)), doneSnap("m", "", fullLayer(5)...)
	list := snapsOf(b, f, m)
	for _, parent := range []string{"", "b", "f", "m"} {
		for _, k := range []struct {
			name  string
			place int
		}{{"a", 0}, {"aaaa", 0}, {"ba", 1}, {"c", 1}, {"ezzz", 1}, {"fa", 2}, {"l", 2}, {"ma", 3}, {"zzzz", 3}} {
			prepared, added := activeSnap(k.name, parent), doneSnap(k.name, parent, fullLayer(4)...)
			wantAnswer(t, "prepare "+k.name, impl.PrepareSnap(list, k.name, parent), snapsAre(slices.Insert(slices.Clone(list), k.place, prepared)...))
			wantAnswer(t, "add "+k.name, impl.AddSnap(list, k.name, parent, fullLayer(4)), snapsAre(slices.Insert(slices.Clone(list), k.place, added)...))
			wantGrown(t, list, k.name, parent, fullLayer(4))
		}
	}
}

// wantReplyOfNew asks both functions that make a snapshot for a Reply, beside which the list stays; a layer with a fault is a code ahead of it.
func wantReplyOfNew(t *testing.T, what string, list []impl.Snap, name string, parent string, reply int64) {
	t.Helper()
	wantAnswer(t, "prepare, "+what, impl.PrepareSnap(list, name, parent), snapsKept(list, reply))
	for _, layer := range [][]impl.Entry{nil, layersToChain()[0], fullLayer(12)} {
		wantAnswer(t, "add, "+what, impl.AddSnap(list, name, parent, layer), snapsKept(list, reply))
	}
	for _, f := range faultyLists()[:6] {
		wantAnswer(t, "add, "+what+", and "+f.name, impl.AddSnap(list, name, parent, f.layer), snapsCode(f.code))
	}
}

// TestRepliesOfNewSnaps: each Reply alone, and each with one that stands behind it.
func TestRepliesOfNewSnaps(t *testing.T) {
	some := someSnaps()
	full := withSnapByHand(withSnapByHand(some, doneSnap("t", "c")), doneSnap("u", ""))
	if len(full) != 10 || impl.SnapsFault(full) != impl.OK || impl.SnapsFault(some) != impl.OK {
		t.Fatal("the lists are not what they have to be")
	}
	for _, k := range []struct {
		what   string
		list   []impl.Snap
		name   string
		parent string
		reply  int64
	}{
		{"no name", some, "", "", impl.ErrText},
		{"a name that is too long", some, "abcde", "", impl.ErrText},
		{"a name with another byte", some, "a1", "b", impl.ErrText},
		{"no name, and no parent", some, "A", "q", impl.ErrText},
		{"no name, and an active parent", some, "", "d", impl.ErrText},
		{"no name, and a chain of four", some, "abcde", "dd", impl.ErrText},
		{"no name, and no room", full, "", "", impl.ErrText},
		{"a name that is taken", some, "b", "", impl.ErrTaken},
		{"the first name", some, "abcd", "", impl.ErrTaken},
		{"the last name", some, "zzzz", "", impl.ErrTaken},
		{"a name that is taken, as it stands there", some, "c", "abcd", impl.ErrTaken},
		{"a name that is taken, on itself", some, "b", "b", impl.ErrTaken},
		{"a name that is taken, and no parent", some, "b", "q", impl.ErrTaken},
		{"a name that is taken, and an active parent", some, "e", "e", impl.ErrTaken},
		{"a name that is taken, and a chain of four", some, "b", "dd", impl.ErrTaken},
		{"a name that is taken, and no room", full, "b", "", impl.ErrTaken},
		{"no parent", some, "x", "q", impl.ErrNone},
		{"a parent that is no name", some, "x", "abcde", impl.ErrNone},
		{"a parent of blanks", some, "x", " ", impl.ErrNone},
		{"on itself", some, "x", "x", impl.ErrNone},
		{"a parent that begins like one", some, "x", "bb", impl.ErrNone},
		{"a parent that one begins like", some, "x", "abc", impl.ErrNone},
		{"no parent, and no room", full, "x", "q", impl.ErrNone},
		{"an active parent", some, "x", "e", impl.ErrState},
		{"an active parent with a parent", some, "x", "zzzz", impl.ErrState},
		{"an active parent, and a chain of four", some, "x", "d", impl.ErrState},
		{"an active parent, and no room", full, "x", "e", impl.ErrState},
		{"a chain of four", some, "x", "dd", impl.ErrMany},
		{"a chain of four, and no room", full, "x", "t", impl.ErrMany},
		{"no room", full, "x", "", impl.ErrMany},
		{"no room, on a chain of one", full, "x", "b", impl.ErrMany},
		{"no room, on a chain of three", full, "a", "c", impl.ErrMany},
	} {
		wantReplyOfNew(t, k.what, k.list, k.name, k.parent, k.reply)
		wantGrown(t, k.list, k.name, k.parent, fullLayer(3))
	}
	for _, no := range namesThatAreNone() {
		wantReplyOfNew(t, "the name "+shortText(no), some, no, "b", impl.ErrText)
		wantReplyOfNew(t, "the name "+shortText(no), nil, no, "", impl.ErrText)
	}
}

// TestHowDeepItComes: a new one on each member of a chain of one to four, whatever the order of their names.
func TestHowDeepItComes(t *testing.T) {
	for n := 1; n <= 4; n++ {
		for _, order := range orders(n) {
			list := chainInOrder(order...)
			for depth, place := range order {
				parent := list[place].Name
				for _, name := range []string{"a", "bzzz", "zz"} {
					prepared, added := impl.PrepareSnap(list, name, parent), impl.AddSnap(list, name, parent, fullLayer(2))
					if depth == 3 {
						wantAnswer(t, "prepare the fifth", prepared, snapsKept(list, impl.ErrMany))
						wantAnswer(t, "add the fifth", added, snapsKept(list, impl.ErrMany))
						continue
					}
					wantAnswer(t, fmt.Sprint("prepare on ", depth), prepared, snapsAre(withSnapByHand(list, activeSnap(name, parent))...))
					wantAnswer(t, fmt.Sprint("add on ", depth), added, snapsAre(withSnapByHand(list, doneSnap(name, parent, fullLayer(2)...))...))
					chain := slices.Concat(layersToChain()[:depth+1], [][]impl.Entry{fullLayer(2)})
					wantAnswer(t, "its chain", impl.ChainOf(added.Snaps, name), impl.LayersResult{Layers: chain})
				}
			}
		}
	}
}

// TestRoomForSnaps: new ones until there are MaxSnaps, then one more.
func TestRoomForSnaps(t *testing.T) {
	for _, parent := range []string{"", "m"} {
		var list []impl.Snap
		if parent != "" {
			list = snapsOf(doneSnap(parent, ""))
		}
		for _, name := range []string{"k", "a", "z", "b", "y", "c", "x", "d", "w", "e"} {
			if len(list) == 10 {
				break
			}
			got := impl.PrepareSnap(list, name, parent)
			wantAnswer(t, "prepare "+name, got, snapsAre(withSnapByHand(list, activeSnap(name, parent))...))
			wantAnswer(t, "add "+name, impl.AddSnap(list, name, parent, fullLayer(2)), snapsAre(withSnapByHand(list, doneSnap(name, parent, fullLayer(2)...))...))
			list = got.Snaps
		}
		wantReplyOfNew(t, "one more", list, "q", parent, impl.ErrMany)
		wantReplyOfNew(t, "one more", list, "aaaa", "", impl.ErrMany)
		left := impl.RemoveSnap(list, "k").Snaps
		if len(list) != 10 || len(left) != 9 {
			t.Fatalf("%d, then %d", len(list), len(left))
		}
		wantAnswer(t, "where one is gone", impl.PrepareSnap(left, "q", parent), snapsAre(withSnapByHand(left, activeSnap("q", parent))...))
	}
}

// TestFaultsOfLayersAdded: a code, ahead of each Reply and behind the fault of the list.
func TestFaultsOfLayersAdded(t *testing.T) {
	some, ten := someSnaps(), rightSnapLists()[len(rightSnapLists())-6]
	if len(ten) != 10 {
		t.Fatal("there is room")
	}
	for _, f := range faultyLayers() {
		for _, list := range [][]impl.Snap{nil, some, ten} {
			for _, k := range [][2]string{{"x", ""}, {"x", "b"}, {"", ""}, {"b", ""}, {"x", "q"}, {"x", "e"}, {"x", "dd"}, {"abcde", "q"}} {
				wantAnswer(t, f.name+", "+k[0]+" on "+k[1], impl.AddSnap(list, k[0], k[1], f.layer), snapsCode(f.code))
			}
		}
	}
	for n := range 13 {
		layer := fullLayer(n)
		got := impl.AddSnap(some, "x", "c", layer)
		wantAnswer(t, fmt.Sprint("a layer of ", n), got, snapsAre(withSnapByHand(some, doneSnap("x", "c", layer...))...))
		wantAnswer(t, "its chain", impl.ChainOf(got.Snaps, "x"), impl.LayersResult{Layers: append(layersToChain()[:3], layer)})
	}
}

func TestChainOfKnown(t *testing.T) {
	layers, some := layersToChain(), someSnaps()
	for _, k := range []struct {
		name  string
		chain [][]impl.Entry
	}{
		{"b", layers[:1]}, {"abcd", layers[:2]}, {"c", layers[:3]}, {"d", layers}, {"dd", append(layers[:3:3], nil)},
		{"e", [][]impl.Entry{nil}}, {"f", [][]impl.Entry{fullLayer(12)}}, {"zzzz", [][]impl.Entry{layers[0], fullLayer(12)}},
	} {
		wantAnswer(t, "the chain of "+k.name, impl.ChainOf(some, k.name), impl.LayersResult{Layers: k.chain})
	}
	for _, name := range append(namesThatAreNone(), "a", "abc", "ab", "bb", "z", "zzz", "q") {
		wantAnswer(t, "the chain of "+shortText(name), impl.ChainOf(some, name), impl.LayersResult{Code: impl.ErrNone})
	}
	for n := 1; n <= 4; n++ {
		for _, order := range orders(n) {
			list := chainInOrder(order...)
			for depth, place := range order {
				got := impl.ChainOf(list, list[place].Name)
				wantAnswer(t, fmt.Sprint("the chain of ", depth, " in ", order), got, impl.LayersResult{Layers: layers[:depth+1]})
				if code := impl.LayersFault(got.Layers); code != impl.OK {
					t.Errorf("the chain of %d has the fault %d", depth, code)
				}
			}
		}
	}
}

// snapStep: one call written out, and what it has to come to.
type snapStep struct {
	name string
	got  impl.SnapsResult
	want impl.SnapsResult
}

func wantSnapSteps(t *testing.T, steps []snapStep) {
	t.Helper()
	for _, s := range steps {
		wantAnswer(t, s.name, s.got, s.want)
	}
}

// replaced: the list with other ones in place of those of their names.
func replaced(list []impl.Snap, others ...impl.Snap) impl.SnapsResult {
	for _, s := range others {
		list = withSnapByHand(list, s)
	}
	return snapsAre(list...)
}

func TestCommitSnapKnown(t *testing.T) {
	some, layers := someSnaps(), layersToChain()
	wantSnapSteps(t, []snapStep{
		{"an active one", impl.CommitSnap(some, "d"), replaced(some, doneSnap("d", "c", layers[3]...))},
		{"an active one with a lease", impl.CommitSnap(some, "e"), replaced(some, leasedSnap(doneSnap("e", "")))},
		{"the last one", impl.CommitSnap(some, "zzzz"), replaced(some, doneSnap("zzzz", "b", fullLayer(12)...))},
		{"one alone", impl.CommitSnap(snapsOf(activeSnap("a", "")), "a"), snapsAre(doneSnap("a", ""))},
		{"a done one", impl.CommitSnap(some, "abcd"), snapsKept(some, impl.ErrState)},
		{"a done one with a lease", impl.CommitSnap(some, "dd"), snapsKept(some, impl.ErrState)},
		{"a done one that is a parent", impl.CommitSnap(some, "b"), snapsKept(some, impl.ErrState)},
		{"a done one alone", impl.CommitSnap(snapsOf(doneSnap("a", "")), "a"), snapsKept(snapsOf(doneSnap("a", "")), impl.ErrState)},
	})
	for _, s := range some {
		once := impl.CommitSnap(some, s.Name)
		wantAnswer(t, "committed twice, "+s.Name, impl.CommitSnap(once.Snaps, s.Name), snapsKept(once.Snaps, impl.ErrState))
	}
	for _, name := range append(namesThatAreNone(), "q", "dx", "zzz") {
		wantAnswer(t, "commit "+shortText(name), impl.CommitSnap(some, name), snapsKept(some, impl.ErrNone))
	}
}

func TestLeaseSnapKnown(t *testing.T) {
	some, layers := someSnaps(), layersToChain()
	wantSnapSteps(t, []snapStep{
		{"set", impl.LeaseSnap(some, "abcd", true), replaced(some, leasedSnap(doneSnap("abcd", "b", layers[1]...)))},
		{"set for an active one", impl.LeaseSnap(some, "zzzz", true), replaced(some, leasedSnap(activeSnap("zzzz", "b", fullLayer(12)...)))},
		{"set again", impl.LeaseSnap(some, "b", true), snapsAre(some...)},
		{"set again for an active one", impl.LeaseSnap(some, "e", true), snapsAre(some...)},
		{"taken away", impl.LeaseSnap(some, "b", false), replaced(some, doneSnap("b", "", layers[0]...))},
		{"taken away from an active one", impl.LeaseSnap(some, "e", false), replaced(some, activeSnap("e", ""))},
		{"taken away where there is none", impl.LeaseSnap(some, "d", false), snapsAre(some...)},
	})
	for _, s := range some {
		list := some
		for _, lease := range []bool{true, true, false, false, true, false} {
			got := impl.LeaseSnap(list, s.Name, lease)
			s.Lease = lease
			wantAnswer(t, fmt.Sprint("the lease of ", s.Name, ", ", lease), got, replaced(some, s))
			list = got.Snaps
		}
	}
	for _, name := range append(namesThatAreNone(), "q", "dx", "zzz") {
		for _, lease := range []bool{true, false} {
			wantAnswer(t, "the lease of "+shortText(name), impl.LeaseSnap(some, name, lease), snapsKept(some, impl.ErrNone))
		}
	}
}

func TestRemoveSnapKnown(t *testing.T) {
	some := someSnaps()
	without := func(at int) impl.SnapsResult { return snapsAre(slices.Delete(slices.Clone(some), at, at+1)...) }
	wantSnapSteps(t, []snapStep{
		{"a parent with a lease", impl.RemoveSnap(some, "b"), snapsKept(some, impl.ErrTaken)},
		{"a parent alone", impl.RemoveSnap(some, "abcd"), snapsKept(some, impl.ErrTaken)},
		{"a parent of two", impl.RemoveSnap(some, "c"), snapsKept(some, impl.ErrTaken)},
		{"one with a lease alone", impl.RemoveSnap(some, "dd"), snapsKept(some, impl.ErrTaken)},
		{"an active one with a lease", impl.RemoveSnap(some, "e"), snapsKept(some, impl.ErrTaken)},
		{"an active one", impl.RemoveSnap(some, "d"), without(3)},
		{"a done one", impl.RemoveSnap(some, "f"), without(6)},
		{"the last one", impl.RemoveSnap(some, "zzzz"), without(7)},
		{"one alone", impl.RemoveSnap(snapsOf(activeSnap("a", "")), "a"), snapsAre()},
		{"the first of two", impl.RemoveSnap(snapsOf(activeSnap("a", ""), doneSnap("b", "")), "a"), snapsAre(doneSnap("b", ""))},
		{"one whose parent has a lease", impl.RemoveSnap(snapsOf(leasedSnap(doneSnap("a", "")), doneSnap("b", "a")), "b"), snapsAre(leasedSnap(doneSnap("a", "")))},
		{"one beside one that has a lease", impl.RemoveSnap(snapsOf(doneSnap("a", ""), leasedSnap(doneSnap("b", ""))), "a"), snapsAre(leasedSnap(doneSnap("b", "")))},
		{"a parent of an active one", impl.RemoveSnap(snapsOf(doneSnap("a", ""), activeSnap("b", "a")), "a"), snapsKept(snapsOf(doneSnap("a", ""), activeSnap("b", "a")), impl.ErrTaken)},
		{"a parent that stands behind", impl.RemoveSnap(snapsOf(doneSnap("a", "b"), doneSnap("b", "")), "b"), snapsKept(snapsOf(doneSnap("a", "b"), doneSnap("b", "")), impl.ErrTaken)},
		{"one whose name begins like a parent's", impl.RemoveSnap(snapsOf(doneSnap("a", ""), doneSnap("aa", ""), doneSnap("b", "aa")), "a"), snapsAre(doneSnap("aa", ""), doneSnap("b", "aa"))},
	})
	for _, name := range append(namesThatAreNone(), "q", "dx", "zzz") {
		wantAnswer(t, "remove "+shortText(name), impl.RemoveSnap(some, name), snapsKept(some, impl.ErrNone))
	}
}

// TestWhatIsHeldGoesWhenNobodyHoldsIt takes the lease and the children away one by one, in either order.
func TestWhatIsHeldGoesWhenNobodyHoldsIt(t *testing.T) {
	root, one, two := leasedSnap(doneSnap("m", "", fullLayer(3)...)), doneSnap("a", "m"), activeSnap("z", "m", fullLayer(2)...)
	list := snapsOf(one, root, two)
	free := doneSnap("m", "", fullLayer(3)...)
	wantSnapSteps(t, []snapStep{
		{"a parent with a lease", impl.RemoveSnap(list, "m"), snapsKept(list, impl.ErrTaken)},
		{"a parent of two without one", impl.RemoveSnap(snapsOf(one, free, two), "m"), snapsKept(snapsOf(one, free, two), impl.ErrTaken)},
		{"a parent of one with a lease", impl.RemoveSnap(snapsOf(root, two), "m"), snapsKept(snapsOf(root, two), impl.ErrTaken)},
		{"a parent of one", impl.RemoveSnap(snapsOf(free, two), "m"), snapsKept(snapsOf(free, two), impl.ErrTaken)},
		{"a parent of the other one", impl.RemoveSnap(snapsOf(one, free), "m"), snapsKept(snapsOf(one, free), impl.ErrTaken)},
		{"a lease alone", impl.RemoveSnap(snapsOf(root), "m"), snapsKept(snapsOf(root), impl.ErrTaken)},
		{"neither", impl.RemoveSnap(snapsOf(free), "m"), snapsAre()},
	})
	steps := []func(list []impl.Snap) []impl.Snap{
		func(list []impl.Snap) []impl.Snap { return impl.LeaseSnap(list, "m", false).Snaps },
		func(list []impl.Snap) []impl.Snap { return impl.RemoveSnap(list, "a").Snaps },
		func(list []impl.Snap) []impl.Snap { return impl.RemoveSnap(list, "z").Snaps },
	}
	for _, order := range orders(3) {
		now := list
		for _, step := range order {
			wantAnswer(t, "while it is held", impl.RemoveSnap(now, "m"), snapsKept(now, impl.ErrTaken))
			now = steps[step](now)
		}
		wantAnswer(t, "what is left", impl.SnapsResult{Snaps: now}, snapsAre(free))
		wantAnswer(t, "when nobody holds it", impl.RemoveSnap(now, "m"), snapsAre())
	}
}

// TestGrowsOnWhatWasCommitted goes from one to the next until four stand on one another.
func TestGrowsOnWhatWasCommitted(t *testing.T) {
	list, parent := []impl.Snap(nil), ""
	tree := []impl.Entry(nil)
	for depth, name := range []string{"m", "d", "x", "a"} {
		grown := impl.PrepareSnap(list, name, parent).Snaps
		wantAnswer(t, "prepared", impl.SnapsResult{Snaps: grown}, replaced(list, activeSnap(name, parent)))
		wantOneTree(t, func() string { return "the tree of " + name }, treeOfSnap(grown, name), impl.TreeResult{Tree: tree})
		wantReplyOfNew(t, "on what is active", grown, "zz", name, impl.ErrState)
		for i, p := range []string{"/a", fmt.Sprintf("/a/%c", 'b'+depth), "/c"} {
			kind := []int64{2, 1, 1}[i]
			if depth > 0 && kind == 2 {
				continue
			}
			data := []byte(name + " writes this")
			grown = impl.WriteSnap(grown, name, p, data, kind).Snaps
			tree = treeKinds(tree, p, data, kind).Tree
		}
		wantOneTree(t, func() string { return "the tree written to " + name }, treeOfSnap(grown, name), impl.TreeResult{Tree: tree})
		wantOthersStay(t, func() string { return "what was done to " + name }, list, grown, name)
		done := impl.CommitSnap(grown, name)
		wantOneTree(t, func() string { return "the tree committed as " + name }, treeOfSnap(done.Snaps, name), impl.TreeResult{Tree: tree})
		list, parent = done.Snaps, name
	}
	wantReplyOfNew(t, "the fifth", list, "zz", parent, impl.ErrMany)
	wantReplyOfNew(t, "on what is there no more", impl.RemoveSnap(list, parent).Snaps, "zz", parent, impl.ErrNone)
}

// writersOver: an active snapshot called w over a chain of none to three others, each kind of which stands beside it, too.
func writersOver(n int, own ...impl.Entry) []impl.Snap {
	list, parent := []impl.Snap{activeSnap("v", "", fullLayer(4)...), leasedSnap(doneSnap("x", "", fullLayer(6)...))}, ""
	for i, layer := range layersToChain()[:n] {
		name := []string{"m", "a", "y"}[i]
		list, parent = append(list, doneSnap(name, parent, layer...)), name
	}
	return replaced(nil, append(list, activeSnap("w", parent, own...))...).Snaps
}

func TestWriteSnapKnown(t *testing.T) {
	x := []byte("x")
	alone, over, most := writersOver(0), writersOver(1), writersOver(3)
	own := writersOver(3, layersToChain()[3]...)
	write := func(list []impl.Snap, p string, kind int64) impl.SnapsResult {
		return impl.WriteSnap(list, "w", p, x, kind)
	}
	wantSnapSteps(t, []snapStep{
		{"write to one alone", write(alone, "/b", 1), replaced(alone, activeSnap("w", "", fileAt("/b", "x")))},
		{"make in one alone", write(alone, "/b", 2), replaced(alone, activeSnap("w", "", dirAt("/b")))},
		{"remove from one alone", write(alone, "/b", 3), snapsKept(alone, impl.ErrNone)},
		{"write over one", write(over, "/a/b", 1), replaced(over, activeSnap("w", "m", dirAt("/a"), fileAt("/a/b", "x")))},
		{"make over one", write(over, "/d/f", 2), replaced(over, activeSnap("w", "m", dirAt("/d"), dirAt("/d/f")))},
		{"remove over one", write(over, "/d/e", 3), replaced(over, activeSnap("w", "m", dirAt("/d"), whiteAt("/d/e")))},
		{"write over three", write(most, "/c", 1), replaced(most, activeSnap("w", "y", fileAt("/c", "x")))},
		{"write below over three", write(most, "/a/z", 1), replaced(most, activeSnap("w", "y", dirAt("/a"), fileAt("/a/z", "x")))},
		{"make over three", write(most, "/c", 2), replaced(most, activeSnap("w", "y", dirAt("/c")))},
		{"remove over three", write(most, "/f", 3), replaced(most, activeSnap("w", "y", whiteAt("/f")))},
		{"remove below over three", write(most, "/d/g", 3), replaced(most, activeSnap("w", "y", dirAt("/d"), whiteAt("/d/g")))},
		{"write where it is white", write(own, "/f", 1), replaced(own, activeSnap("w", "y", dirAt("/a"), dirAt("/a/h"), fileAt("/f", "x")))},
		{"make where it is white", write(own, "/f", 2), replaced(own, activeSnap("w", "y", dirAt("/a"), dirAt("/a/h"), opaqueAt("/f")))},
		{"remove what it has alone", write(own, "/a/h", 3), replaced(own, activeSnap("w", "y", dirAt("/a"), whiteAt("/f")))},
		{"write below what it has alone", write(own, "/a/h/i", 1), replaced(own, activeSnap("w", "y", dirAt("/a"), dirAt("/a/h"), fileAt("/a/h/i", "x"), whiteAt("/f")))},
		{"write below nothing", write(most, "/z/z", 1), snapsKept(most, impl.ErrNone)},
		{"write below what a parent hides", write(most, "/c/z", 1), snapsKept(most, impl.ErrNone)},
		{"write below a file", write(most, "/f/z", 1), snapsKept(most, impl.ErrDir)},
		{"write to a directory", write(most, "/a", 1), snapsKept(most, impl.ErrDir)},
		{"make below nothing", write(most, "/z/z", 2), snapsKept(most, impl.ErrNone)},
		{"make below a file", write(most, "/f/z", 2), snapsKept(most, impl.ErrDir)},
		{"make what is there", write(most, "/a", 2), snapsKept(most, impl.ErrTaken)},
		{"make what a parent has as a file", write(most, "/f", 2), snapsKept(most, impl.ErrTaken)},
		{"remove what is nowhere", write(most, "/z", 3), snapsKept(most, impl.ErrNone)},
		{"remove what a parent hides", write(most, "/d/e", 3), snapsKept(most, impl.ErrNone)},
		{"remove what has something", write(most, "/a", 3), snapsKept(most, impl.ErrForm)},
		{"remove what an opaque one of a parent has", write(most, "/d", 3), snapsKept(most, impl.ErrForm)},
	})
}

// TestWriteSnapAtAllPaths: each kind over a chain of one to four, at each path, with nothing, something and as much as may be in the layer.
func TestWriteSnapAtAllPaths(t *testing.T) {
	paths := []string{"/a", "/a/b", "/a/b/c", "/a/h", "/a/h/i", "/a/z", "/c", "/c/d", "/d", "/d/e", "/d/g", "/d/z", "/f", "/f/z", "/ma", "/z", "/z/z", "", "/", "/A", "/abcde", "/a/b/c/d"}
	for n := range 4 {
		for i, own := range [][]impl.Entry{nil, layersToChain()[3], layerOf(whiteAt("/a")), layerOf(opaqueAt("/a"), fileAt("/a/b", "own")), layerOf(fileAt("/d", "own")), fullLayer(12), numberedFiles("m", 12), numberedFiles("m", 11), numberedFiles("m", 10)} {
			list := writersOver(n, own...)
			if code := impl.SnapsFault(list); code != impl.OK {
				t.Fatalf("the list has the fault %d", code)
			}
			for j, p := range paths {
				wantWritten(t, list, "w", p, string(countedBytes((i*7+j*5)%25)))
				wantWritten(t, list, []string{"x", "v", "q", ""}[(i+j)%4], p, "x")
			}
		}
	}
}

// TestCodesOfWritingAreReplies: what the layer's function tells as a code or a Reply is the Reply; the bytes are asked of the first kind alone.
func TestCodesOfWritingAreReplies(t *testing.T) {
	for n := range 4 {
		list, full := writersOver(n), writersOver(n, numberedFiles("o", 12)...)
		for _, f := range faultyPaths() {
			for kind := int64(1); kind <= 3; kind++ {
				for _, data := range [][]byte{nil, countedBytes(24), countedBytes(25)} {
					wantAnswer(t, fmt.Sprint(kind, " of ", shortText(f.path)), impl.WriteSnap(list, "w", f.path, data, kind), snapsKept(list, f.code))
					wantAnswer(t, fmt.Sprint(kind, " of ", shortText(f.path), ", full"), impl.WriteSnap(full, "w", f.path, data, kind), snapsKept(full, f.code))
				}
			}
		}
		for _, size := range []int{0, 1, 8, 9, 24, 25, 26, 256, 257} {
			data := countedBytes(size)
			want := writeSnapByHand(list, "w", "/b", data, 1)
			if size > 24 {
				want = snapsKept(list, impl.ErrMany)
				wantAnswer(t, "too many bytes below nothing", impl.WriteSnap(list, "w", "/z/z", data, 1), want)
			}
			wantAnswer(t, fmt.Sprint(size, " bytes"), impl.WriteSnap(list, "w", "/b", data, 1), want)
			wantAnswer(t, fmt.Sprint("a directory, ", size, " bytes"), impl.WriteSnap(list, "w", "/b", data, 2), replaced(list, impl.Snap{Name: "w", Parent: snapsByName(list)["w"].Parent, Kind: 1, Layer: layerOf(dirAt("/b"))}))
			wantAnswer(t, fmt.Sprint("removed, ", size, " bytes"), impl.WriteSnap(full, "w", "/oa", data, 3).Reply, int64(impl.OK))
		}
		wantAnswer(t, "no room", impl.WriteSnap(full, "w", "/b", nil, 1), snapsKept(full, impl.ErrMany))
		wantAnswer(t, "no room for a directory", impl.WriteSnap(full, "w", "/b", nil, 2), snapsKept(full, impl.ErrMany))
		if n == 1 {
			wantAnswer(t, "no room for what is gone", impl.WriteSnap(full, "w", "/c", nil, 3), snapsKept(full, impl.ErrMany))
		}
	}
}

// TestOrderOfWritingFaults: the kind, as a code; then whether it is there; then whether it is done; then what is done to its layer.
func TestOrderOfWritingFaults(t *testing.T) {
	list, many := writersOver(3), countedBytes(25)
	for _, kind := range kindsThatAreNone(3) {
		for _, name := range []string{"w", "x", "v", "m", "q", "", "abcde"} {
			for _, p := range []string{"/b", "/a", "/z/z", "", "/A"} {
				wantAnswer(t, fmt.Sprint("the kind ", kind, " of ", name), impl.WriteSnap(list, name, p, many, kind), snapsCode(impl.ErrForm))
			}
		}
		wantAnswer(t, fmt.Sprint("the kind ", kind, " of nothing"), impl.WriteSnap(nil, "a", "/a", nil, kind), snapsCode(impl.ErrForm))
	}
	for kind := int64(1); kind <= 3; kind++ {
		for _, p := range []string{"/b", "/a", "/f", "/z/z", "", "/A", "/abcde"} {
			for _, data := range [][]byte{nil, many} {
				for _, name := range append(namesThatAreNone(), "q", "ww", "b") {
					wantAnswer(t, fmt.Sprint(kind, " of none"), impl.WriteSnap(list, name, p, data, kind), snapsKept(list, impl.ErrNone))
				}
				for _, name := range []string{"a", "m", "x", "y"} {
					wantAnswer(t, fmt.Sprint(kind, " of a done one"), impl.WriteSnap(list, name, p, data, kind), snapsKept(list, impl.ErrState))
				}
			}
		}
	}
}

// TestWhatIsWrittenTurnsNoOther: two that stand on one parent, and the parent, each with its own.
func TestWhatIsWrittenTurnsNoOther(t *testing.T) {
	base := doneSnap("m", "", layersToChain()[0]...)
	list := impl.PrepareSnap(impl.PrepareSnap(snapsOf(base), "a", "m").Snaps, "z", "m").Snaps
	wantAnswer(t, "both", impl.SnapsResult{Snaps: list}, snapsAre(activeSnap("a", "m"), base, activeSnap("z", "m")))
	one := impl.WriteSnap(list, "a", "/a/b", []byte("a's"), 1).Snaps
	two := impl.WriteSnap(one, "z", "/a/b", nil, 3).Snaps
	three := impl.WriteSnap(two, "a", "/d/e", nil, 3).Snaps
	inA, inZ := layerOf(dirAt("/a"), fileAt("/a/b", "a's")), layerOf(dirAt("/a"), whiteAt("/a/b"))
	wantAnswer(t, "written to a", impl.SnapsResult{Snaps: one}, snapsAre(activeSnap("a", "m", inA...), base, activeSnap("z", "m")))
	wantAnswer(t, "removed from z", impl.SnapsResult{Snaps: two}, snapsAre(activeSnap("a", "m", inA...), base, activeSnap("z", "m", inZ...)))
	wantAnswer(t, "removed from a", impl.SnapsResult{Snaps: three}, snapsAre(activeSnap("a", "m", append(inA, dirAt("/d"), whiteAt("/d/e"))...), base, activeSnap("z", "m", inZ...)))
	for _, k := range []struct {
		name string
		tree []impl.Entry
	}{
		{"m", layersToChain()[0]},
		{"a", layerOf(dirAt("/a"), fileAt("/a/b", "a's"), fileAt("/c", "one"), dirAt("/d"))},
		{"z", layerOf(dirAt("/a"), fileAt("/c", "one"), dirAt("/d"), fileAt("/d/e", "one"))},
	} {
		wantAnswer(t, "the tree of "+k.name, treeOfSnap(three, k.name), impl.TreeResult{Tree: k.tree})
	}
	done := impl.CommitSnap(three, "a").Snaps
	for kind := int64(1); kind <= 3; kind++ {
		wantAnswer(t, "written to what is committed", impl.WriteSnap(done, "a", "/c", nil, kind), snapsKept(done, impl.ErrState))
	}
	wantAnswer(t, "the tree of what is committed", treeOfSnap(impl.WriteSnap(done, "z", "/c", nil, 3).Snaps, "a"), treeOfSnap(three, "a"))
}

// askedStep is one call of a long run, made by the program and by the model.
type askedStep struct {
	what string
	name string
	got  impl.SnapsResult
	want impl.SnapsResult
}

// someStep: of names that are there and that are not; the more are kept, the fewer are removed.
func someStep(list []impl.Snap, kept int, next func(n int) int) askedStep {
	names := []string{"a", "bb", "ccc", "dddd", "e", "ff", "ggg", "hhhh", "i", "jj", "kkk", "llll"}
	paths := []string{"/a", "/a/b", "/a/b/c", "/ab", "/b", "/b/a", "/c", "/A"}
	name, fresh, parent := names[next(len(names))], names[next(len(names))], ""
	if next(4) > 0 && len(list) > 0 {
		parent = list[next(len(list))].Name
	}
	if next(30) == 0 {
		name, fresh = namesThatAreNone()[next(8)], namesThatAreNone()[next(8)]
	} else if next(4) > 0 && len(list) > 0 {
		name = list[next(len(list))].Name
	}
	switch step := next(20); {
	case step < 3:
		return askedStep{"prepare", fresh, impl.PrepareSnap(list, fresh, parent), growByHand(list, activeSnap(fresh, parent))}
	case step < 6:
		layer := layersToChain()[next(4)]
		return askedStep{"add", fresh, impl.AddSnap(list, fresh, parent, layer), growByHand(list, doneSnap(fresh, parent, layer...))}
	case step < 8:
		return askedStep{"commit", name, impl.CommitSnap(list, name), commitByHand(list, name)}
	case step < 10 && next(kept) == 0:
		return askedStep{"remove", name, impl.RemoveSnap(list, name), removeSnapByHand(list, name)}
	case step < 12:
		lease := next(4) == 0
		return askedStep{"lease", name, impl.LeaseSnap(list, name, lease), leaseByHand(list, name, lease)}
	default:
		kind, p, data := int64(1+next(3)), paths[next(len(paths))], countedBytes(next(27))
		return askedStep{fmt.Sprint("write ", kind), name, impl.WriteSnap(list, name, p, data, kind), writeSnapByHand(list, name, p, data, kind)}
	}
}

// wantPromised asks of one step what promise 13 says: what is committed keeps its layer, what is held stays, and no other one turns.
func wantPromised(t *testing.T, before []impl.Snap, step askedStep) {
	t.Helper()
	after := snapsByName(step.got.Snaps)
	held := map[string]bool{}
	for _, s := range before {
		held[s.Parent] = true
		held[s.Name] = held[s.Name] || s.Lease
	}
	for _, s := range before {
		left, there := after[s.Name]
		if !there && (held[s.Name] || step.what != "remove" || step.name != s.Name) {
			t.Fatalf("%s %s in %s takes %s", step.what, step.name, told(before), s.Name)
		}
		if there && (left.Parent != s.Parent || s.Kind == 2 && (left.Kind != 2 || told(left.Layer) != told(s.Layer))) {
			t.Fatalf("%s %s in %s turns %s", step.what, step.name, told(before), s.Name)
		}
	}
	wantOthersStay(t, func() string { return step.what + " " + step.name }, before, step.got.Snaps, step.name)
}

// TestManyStepsOfSnaps goes on from list to list, each answer held against the model's and against the promise.
func TestManyStepsOfSnaps(t *testing.T) {
	spread := uint32(71)
	next := func(n int) int {
		spread = spread*1664525 + 1013904223
		return int(spread>>8) % n
	}
	replies := map[string]int{}
	for run := range 40 {
		var list []impl.Snap
		for range 300 {
			step := someStep(list, 1+run%4*2, next)
			wantOneSnaps(t, func() string { return step.what + " " + step.name }, list, step.got, step.want)
			wantPromised(t, list, step)
			replies[fmt.Sprint(step.what, " ", step.got.Reply)]++
			list = step.got.Snaps
		}
	}
	for _, reply := range []string{
		"prepare 0", "prepare 2", "prepare 5", "prepare 7", "prepare 10", "add 0", "add 2", "add 5", "add 7", "add 10", "commit 0", "commit 4", "commit 10", "remove 0", "remove 4", "remove 7",
		"lease 0", "lease 4", "write 1 0", "write 1 2", "write 1 4", "write 1 5", "write 1 9", "write 1 10", "write 2 0", "write 2 4", "write 2 7", "write 2 9", "write 3 0", "write 3 1", "write 3 4",
	} {
		if replies[reply] < 10 {
			t.Errorf("%s came %d times alone", reply, replies[reply])
		}
	}
}
