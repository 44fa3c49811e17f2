package tests

import (
	"cmp"
	"fmt"
	"maps"
	"slices"
	"strings"
	"testing"

	"loop.example/g00299/impl"
)

// heldAndNot: what the model says of a list: its code, those that are live, and the others.
type heldAndNot struct {
	code int64
	live []impl.Snap
	dead []impl.Snap
}

// liveByHand goes up to the end from each snapshot that is held itself.
func liveByHand(list []impl.Snap, roots []string) map[string]bool {
	snaps, live := snapsByName(list), map[string]bool{}
	for _, s := range list {
		if !s.Lease && s.Kind != 1 && !slices.Contains(roots, s.Name) {
			continue
		}
		for up, there := s, true; there; up, there = snaps[up.Parent] {
			live[up.Name] = true
		}
	}
	return live
}

func collectByHand(list []impl.Snap, roots []string) heldAndNot {
	if code := snapsFaultByHand(list); code != impl.OK {
		return heldAndNot{code: code}
	}
	if len(roots) >= 21 {
		return heldAndNot{code: impl.ErrMany}
	}
	var out heldAndNot
	live := liveByHand(list, roots)
	for _, s := range list {
		if live[s.Name] {
			out.live = append(out.live, s)
		} else {
			out.dead = append(out.dead, s)
		}
	}
	return out
}

func namesIn(list []impl.Snap) []string {
	var names []string
	for _, s := range list {
		names = append(names, s.Name)
	}
	return names
}

func digestsIn(list []impl.Snap) []int64 {
	var digests []int64
	for _, s := range list {
		for _, e := range s.Layer {
			if e.Kind == 1 {
				digests = append(digests, e.Chunks...)
			}
		}
	}
	return uniqueInOrder(digests)
}

func keptByHand(list []impl.Snap, chunks []impl.Chunk) impl.ChunksResult {
	if code := cmp.Or(snapsFaultByHand(list), chunksFaultByHand(chunks)); code != impl.OK {
		return impl.ChunksResult{Code: code}
	}
	needed := digestsIn(list)
	return impl.ChunksResult{Chunks: slices.DeleteFunc(slices.Clone(chunks), func(c impl.Chunk) bool { return !slices.Contains(needed, c.Digest) })}
}

func named(names ...string) impl.NamedResult { return impl.NamedResult{Names: names} }

func ints(list ...int64) impl.IntsResult { return impl.IntsResult{List: list} }

// wantParted holds the four functions that take roots against the model.
func wantParted(t *testing.T, list []impl.Snap, roots []string) {
	t.Helper()
	want := collectByHand(list, roots)
	for _, one := range []struct {
		what string
		got  any
		want any
	}{
		{"LiveSnaps", impl.LiveSnaps(list, roots), impl.NamedResult{Code: want.code, Names: namesIn(want.live)}},
		{"DeadOf", impl.DeadOf(list, roots), impl.NamedResult{Code: want.code, Names: namesIn(want.dead)}},
		{"LiveChunks", impl.LiveChunks(list, roots), impl.IntsResult{Code: want.code, List: digestsIn(want.live)}},
		{"CollectSnaps", impl.CollectSnaps(list, roots), impl.SnapsResult{Code: want.code, Snaps: want.live}},
	} {
		if told(one.got) != told(one.want) {
			t.Fatalf("%s of %s with the roots %q: %s, not %s", one.what, told(list), roots, told(one.got), told(one.want))
		}
	}
}

// wantKept holds CollectChunks against the model, and asks that a second time nothing goes.
func wantKept(t *testing.T, list []impl.Snap, chunks []impl.Chunk) {
	t.Helper()
	got, want := impl.CollectChunks(list, chunks), keptByHand(list, chunks)
	if told(got) != told(want) {
		t.Fatalf("CollectChunks of %s and %q: %s, not %s", told(list), textsIn(chunks), told(got), told(want))
	}
	if again := impl.CollectChunks(list, got.Chunks); got.Code == impl.OK && told(again) != told(got) {
		t.Fatalf("CollectChunks of %s, a second time: %s, not %s", told(list), told(again), told(got))
	}
}

// wantJustHeld asks, of each snapshot alone, whether the document's reasons for it to stay are there.
func wantJustHeld(t *testing.T, list []impl.Snap, roots []string) {
	t.Helper()
	live, dead := impl.LiveSnaps(list, roots).Names, impl.DeadOf(list, roots).Names
	if !slices.IsSorted(live) || !slices.IsSorted(dead) {
		t.Fatalf("%q and %q do not rise", live, dead)
	}
	if all := slices.Sorted(slices.Values(slices.Concat(live, dead))); !slices.Equal(all, namesIn(list)) {
		t.Fatalf("%q and %q together are not %q", live, dead, namesIn(list))
	}
	for _, s := range list {
		held := s.Lease || s.Kind == impl.SnapActive || slices.Contains(roots, s.Name)
		for _, child := range list {
			held = held || child.Parent == s.Name && slices.Contains(live, child.Name)
		}
		if held != slices.Contains(live, s.Name) {
			t.Fatalf("%s of %s with the roots %q: held is %v, but live are %q", s.Name, told(list), roots, held, live)
		}
	}
}

// wantTreesStay asks what is left: it has no fault, it is live still, and each has the chain and the tree that it had.
func wantTreesStay(t *testing.T, list []impl.Snap, roots []string) {
	t.Helper()
	left := impl.CollectSnaps(list, roots)
	if code := impl.SnapsFault(left.Snaps); code != impl.OK || left.Code != impl.OK || left.Reply != impl.OK {
		t.Fatalf("what is left of %s with the roots %q has the fault %d: %s", told(list), roots, code, told(left))
	}
	if again := impl.CollectSnaps(left.Snaps, roots); told(again) != told(left) {
		t.Fatalf("%s collected a second time with the roots %q: %s", told(left), roots, told(again))
	}
	if names := namesIn(left.Snaps); !slices.Equal(names, impl.LiveSnaps(list, roots).Names) {
		t.Fatalf("what is left of %s with the roots %q is %q", told(list), roots, names)
	}
	before := snapsByName(list)
	for _, s := range left.Snaps {
		if told(s) != told(before[s.Name]) {
			t.Fatalf("%s became %s", told(before[s.Name]), told(s))
		}
		if told(impl.ChainOf(left.Snaps, s.Name)) != told(impl.ChainOf(list, s.Name)) || told(treeOfSnap(left.Snaps, s.Name)) != told(treeOfSnap(list, s.Name)) {
			t.Fatalf("%s has another tree in what is left of %s", s.Name, told(list))
		}
	}
}

// wantReadsStay asks each path of what is left, with all chunks and with those that are left of them.
func wantReadsStay(t *testing.T, list []impl.Snap, roots []string, chunks []impl.Chunk) {
	t.Helper()
	left := impl.CollectSnaps(list, roots).Snaps
	kept := impl.CollectChunks(left, chunks)
	if code := impl.ChunksFault(kept.Chunks); code != impl.OK || kept.Code != impl.OK {
		t.Fatalf("the chunks that are left have the fault %d: %s", code, told(kept))
	}
	for _, s := range left {
		layers := impl.ChainOf(left, s.Name).Layers
		for _, p := range impl.PathsOver(layers).Names {
			before, after := impl.ReadOver(impl.ChainOf(list, s.Name).Layers, chunks, p), impl.ReadOver(layers, kept.Chunks, p)
			if told(before) != told(after) || told(impl.AwayOver(layers, chunks, p)) != told(impl.AwayOver(layers, kept.Chunks, p)) {
				t.Fatalf("%s of %s in what is left of %s: %s, then %s", p, s.Name, told(list), told(before), told(after))
			}
		}
		if impl.IsWhole(layers, chunks) != impl.IsWhole(layers, kept.Chunks) {
			t.Fatalf("%s of what is left of %s is whole no more, or at last", s.Name, told(list))
		}
	}
	needed, had := impl.LiveChunks(list, roots).List, textByDigest(chunks)
	for _, c := range kept.Chunks {
		if !slices.Contains(needed, c.Digest) || had[c.Digest] != string(c.Bytes) {
			t.Fatalf("%q is left of %q, but %v are needed", c.Bytes, textsIn(chunks), needed)
		}
	}
}

// wantCollected asks all of one list: the model, and what goes together.
func wantCollected(t *testing.T, list []impl.Snap, roots []string, chunks []impl.Chunk) {
	t.Helper()
	wantParted(t, list, roots)
	wantKept(t, list, chunks)
	wantJustHeld(t, list, roots)
	wantTreesStay(t, list, roots)
	wantReadsStay(t, list, roots, chunks)
}

// sharingSnaps: chunks that stand in one file twice, in two files, in two snapshots and in one alone. Nobody holds b;
// c is held, its parent a stands ahead of it, and the parent m of that one behind both.
func sharingSnaps() []impl.Snap {
	return snapsOf(
		doneSnap("a", "m", dirAt("/d"), fileAt("/d/e", partThree+partOne), fileAt("/f", ""), whiteAt("/g")),
		doneSnap("b", "", fileAt("/a", partTwo+partTwo), fileAt("/b", partTwo+partShort)),
		leasedSnap(doneSnap("c", "a", opaqueAt("/d"), fileAt("/d/f", partShort))),
		doneSnap("m", "", fileAt("/a", partOne), fileAt("/b", partLone), fileAt("/g", "m alone")),
	)
}

// wrongFiles: files that cannot be read, as their size is another one, or as some or all of their chunks are nowhere.
func wrongFiles() []impl.Snap {
	return snapsOf(
		doneSnap("a", "b", fileOfChunks("/a", 12, partOne, partTwo), fileAt("/b", partOne+"nowhere"), fileAt("/c", partOne)),
		leasedSnap(doneSnap("b", "c", fileOfChunks("/c", 9, partLone, partLone), fileOfChunks("/d", 2, partLone), fileOfChunks("/e", 8, "nowhere"))),
		doneSnap("c", "", fileAt("/e", partTwo), fileAt("/f", partThree)),
	)
}

// endsOfDigests: files of the least digest and of the largest one, and of bytes that another text has the digest of.
func endsOfDigests() []impl.Snap {
	return snapsOf(
		activeSnap("a", "", fileAt("/a", bytesOfLargest+bytesOfZero), fileAt("/b", bytesOfZero)),
		doneSnap("b", "", fileAt("/a", bytesOfOne+bytesNextBelow), fileAt("/b", firstOfTwo)),
	)
}

func listsToCollect() [][]impl.Snap {
	return append(rightSnapLists(), sharingSnaps(), sharingSnaps()[1:2], sharingSnaps()[3:], wrongFiles(), endsOfDigests())
}

// textsOfFiles: the texts of all chunks in listsToCollect that are somewhere at all.
func textsOfFiles() []string {
	datas := []string{
		"one", "two, longer", "two", "three", "b", partOne, partTwo, partThree, partShort, partLone, "m alone",
		bytesOfZero, bytesOfOne, bytesNextBelow, bytesOfLargest, firstOfTwo,
	}
	for i := range 12 {
		datas = append(datas, fmt.Sprint("the bytes of ", i))
	}
	return piecesIn(datas...)
}

// chunkChoices: no chunks, all that a file may have, some of them, and some that no file has.
func chunkChoices() [][]impl.Chunk {
	all := textsOfFiles()
	var some []string
	for i, text := range all {
		if i%3 > 0 {
			some = append(some, text)
		}
	}
	others := []string{"no file", "none", "neither", secondOfTwo + "x"}
	return [][]impl.Chunk{nil, {}, chunksOf(all...), chunksOf(slices.Concat(some, others)...), chunksOf(others...), chunksOf(slices.Concat(all[:12], others)...), numberedChunks(40)}
}

// rootChoices: no roots, each name alone, twice and with some that are none, all of them in both orders, every other one, and as many as may be.
func rootChoices(list []impl.Snap) [][]string {
	names := namesIn(list)
	back := slices.Clone(names)
	slices.Reverse(back)
	var odd []string
	for i, name := range names {
		if i%2 == 1 {
			odd = append(odd, name)
		}
	}
	choices := [][]string{nil, {}, {""}, {"", "", ""}, {"q", "abcde", "A", "/"}, names, back, odd, slices.Concat(names, names), append(slices.Repeat([]string{"q"}, 20-len(names)), names...)}
	for i, name := range names {
		choices = append(choices, []string{name}, []string{name, name}, []string{"q", name, ""}, []string{name, names[(i+1)%len(names)]}, append(slices.Repeat([]string{"qq"}, 19), name))
	}
	return choices
}

func TestListsToCollectAreWhatTheySay(t *testing.T) {
	held, gone, most := 0, 0, 0
	for _, list := range listsToCollect() {
		if code := impl.SnapsFault(list); code != impl.OK {
			t.Errorf("%s has the fault %d", told(list), code)
		}
		parts := collectByHand(list, nil)
		held, gone, most = held+len(parts.live), gone+len(parts.dead), max(most, len(list))
	}
	if held < 30 || gone < 60 || most != impl.MaxSnaps {
		t.Errorf("%d are held and %d are not, of %d at most", held, gone, most)
	}
	for _, chunks := range chunkChoices() {
		if code := impl.ChunksFault(chunks); code != impl.OK {
			t.Errorf("%q has the fault %d", textsIn(chunks), code)
		}
	}
}

// TestAllListsAreCollected: each list with each choice of roots, chunks of all and of some of them beside it.
func TestAllListsAreCollected(t *testing.T) {
	chunks := chunkChoices()
	for i, list := range listsToCollect() {
		for j, roots := range rootChoices(list) {
			wantCollected(t, list, roots, chunks[(i+j)%len(chunks)])
		}
		for _, some := range chunks {
			wantCollected(t, list, nil, some)
		}
	}
}

func TestCollectOfNothing(t *testing.T) {
	for _, list := range [][]impl.Snap{nil, {}} {
		for _, roots := range [][]string{nil, {}, {""}, {"a"}, {"a", "a", "b"}, slices.Repeat([]string{"a"}, 20)} {
			wantAnswer(t, "LiveSnaps", impl.LiveSnaps(list, roots), named())
			wantAnswer(t, "DeadOf", impl.DeadOf(list, roots), named())
			wantAnswer(t, "LiveChunks", impl.LiveChunks(list, roots), ints())
			wantAnswer(t, "CollectSnaps", impl.CollectSnaps(list, roots), snapsAre())
		}
		for _, chunks := range chunkChoices() {
			wantAnswer(t, "CollectChunks", impl.CollectChunks(list, chunks), impl.ChunksResult{})
		}
	}
}

// wantLive asks the four functions that take roots for just these names.
func wantLive(t *testing.T, name string, list []impl.Snap, roots []string, live ...string) {
	t.Helper()
	var dead []string
	var left []impl.Snap
	for _, s := range list {
		if slices.Contains(live, s.Name) {
			left = append(left, s)
		} else {
			dead = append(dead, s.Name)
		}
	}
	wantAnswer(t, name+": LiveSnaps", impl.LiveSnaps(list, roots), named(namesIn(left)...))
	wantAnswer(t, name+": DeadOf", impl.DeadOf(list, roots), named(dead...))
	wantAnswer(t, name+": CollectSnaps", impl.CollectSnaps(list, roots), snapsAre(left...))
	wantAnswer(t, name+": LiveChunks", impl.LiveChunks(list, roots), ints(digestsIn(left)...))
	if len(left) != len(live) {
		t.Errorf("%s: the test itself says %q of %q", name, live, namesIn(list))
	}
}

// TestOneIsLive: one snapshot alone, with each reason, none of them and all.
func TestOneIsLive(t *testing.T) {
	layer := layerOf(dirAt("/a"), fileAt("/a/b", partOne+partShort))
	for reasons := range 8 {
		s := doneSnap("bb", "", layer...)
		s.Lease = reasons&1 > 0
		if reasons&2 > 0 {
			s.Kind = impl.SnapActive
		}
		roots, live := []string{"b", "bbb", ""}, []string{"bb"}
		if reasons&4 > 0 {
			roots = append(roots, "bb")
		}
		if reasons == 0 {
			live = nil
		}
		wantLive(t, fmt.Sprint("reasons ", reasons), snapsOf(s), roots, live...)
		wantCollected(t, snapsOf(s), roots, chunksOf(partOne, partShort, partTwo))
	}
}

// heldBy: the list with one of its snapshots held for a reason, and the roots that this takes.
func heldBy(list []impl.Snap, name string, reason string) ([]impl.Snap, []string) {
	s := snapsByName(list)[name]
	switch reason {
	case "lease":
		return withSnapByHand(list, leasedSnap(s)), nil
	case "active":
		s.Kind = impl.SnapActive
		return withSnapByHand(list, s), nil
	case "root":
		return list, []string{name}
	default:
		return withSnapByHand(list, leasedSnap(s)), []string{"q", name}
	}
}

// TestParentsOfWhatIsLive: a chain of one to four in each order of names, of which none is held, or one of them for each reason:
// it and all that is above it are live, whether that stands ahead or behind.
func TestParentsOfWhatIsLive(t *testing.T) {
	for n := 1; n <= 4; n++ {
		for _, order := range orders(n) {
			list := chainInOrder(order...)
			wantLive(t, "none", list, nil)
			for depth, place := range order {
				var live []string
				for _, above := range order[:depth+1] {
					live = append(live, list[above].Name)
				}
				for _, reason := range []string{"lease", "root", "active", "both"} {
					if reason == "active" && depth < n-1 {
						continue
					}
					held, roots := heldBy(list, list[place].Name, reason)
					wantLive(t, fmt.Sprint(reason, " of ", depth, " in ", order), held, roots, live...)
				}
			}
		}
	}
}

// TestWhatStandsBesideIsNotHeld: a child of what is live, what has the same parent, and another chain go.
func TestWhatStandsBesideIsNotHeld(t *testing.T) {
	list := snapsOf(
		doneSnap("a", "m", fullLayer(2)...), doneSnap("b", "m"), doneSnap("c", "a"), doneSnap("d", "c", fullLayer(7)...), doneSnap("e", ""),
		doneSnap("f", "e"), doneSnap("m", "", fullLayer(12)...), doneSnap("n", "b"), doneSnap("o", "b"), doneSnap("p", "f"),
	)
	for _, k := range []struct {
		roots []string
		live  []string
	}{
		{nil, nil}, {[]string{"m"}, []string{"m"}}, {[]string{"a"}, []string{"a", "m"}}, {[]string{"b"}, []string{"b", "m"}}, {[]string{"c"}, []string{"a", "c", "m"}},
		{[]string{"d"}, []string{"a", "c", "d", "m"}}, {[]string{"n"}, []string{"b", "m", "n"}}, {[]string{"o", "n"}, []string{"b", "m", "n", "o"}}, {[]string{"e"}, []string{"e"}},
		{[]string{"p"}, []string{"e", "f", "p"}}, {[]string{"p", "a"}, []string{"a", "e", "f", "m", "p"}}, {[]string{"m", "e"}, []string{"e", "m"}}, {[]string{"f", "n", "c"}, []string{"a", "b", "c", "e", "f", "m", "n"}},
		{[]string{"p", "o", "n", "d"}, []string{"a", "b", "c", "d", "e", "f", "m", "n", "o", "p"}},
	} {
		wantLive(t, fmt.Sprintf("the roots %q", k.roots), list, k.roots, k.live...)
		leased := list
		for _, name := range k.roots {
			leased, _ = heldBy(leased, name, "lease")
		}
		wantLive(t, fmt.Sprintf("leases of %q", k.roots), leased, nil, k.live...)
		wantLive(t, fmt.Sprintf("leases and roots %q", k.roots), leased, k.roots, k.live...)
		wantCollected(t, leased, k.roots, chunkChoices()[3])
	}
}

// TestRootsThatAreNone: they are passed over, whatever they are, alone and beside one that is a name.
func TestRootsThatAreNone(t *testing.T) {
	list := snapsOf(doneSnap("a", "zzzz"), doneSnap("bb", "a", fullLayer(3)...), doneSnap("m", ""), doneSnap("zzzz", "", fullLayer(6)...))
	for _, no := range append(namesThatAreNone(), "q", "b", "bbb", "aa", "zzz", "zzzzz", " a", "a ", "bb\x00") {
		if slices.Contains(namesIn(list), no) {
			t.Fatalf("%q is a name", no)
		}
		wantLive(t, shortText(no), list, []string{no})
		wantLive(t, shortText(no)+" 20 times", list, slices.Repeat([]string{no}, 20))
		wantLive(t, shortText(no)+" ahead", list, []string{no, "bb"}, "a", "bb", "zzzz")
		wantLive(t, shortText(no)+" behind", list, []string{"a", no}, "a", "zzzz")
		wantLive(t, shortText(no)+" between", list, []string{"m", no, no, "m", no, "zzzz"}, "m", "zzzz")
	}
}

// TestMostRoots: just 20 of them, where the name stands at each place, and 21, which are too many whatever they are.
func TestMostRoots(t *testing.T) {
	for _, list := range [][]impl.Snap{sharingSnaps(), snapsOf(doneSnap("b", "")), snapsOf(doneSnap("a", ""), activeSnap("b", "a"))} {
		for n := range 45 {
			for _, no := range []string{"", "q", "b"} {
				roots := slices.Repeat([]string{no}, n)
				wantParted(t, list, roots)
				for place := range roots {
					with := slices.Clone(roots)
					with[place] = "b"
					wantParted(t, list, with)
				}
			}
		}
	}
	twenty := slices.Repeat([]string{"q"}, 20)
	alone := snapsOf(doneSnap("b", "", fileAt("/a", partOne)))
	wantLive(t, "20 that are none", alone, twenty)
	wantLive(t, "20, the first one the name", alone, append([]string{"b"}, twenty[:19]...), "b")
	wantLive(t, "20, the last one the name", alone, append(twenty[:19:19], "b"), "b")
	wantLive(t, "20 times the name", alone, slices.Repeat([]string{"b"}, 20), "b")
}

// TestTwentyNames: all names of a full list, twice over, are just as many roots as there may be.
func TestTwentyNames(t *testing.T) {
	var list []impl.Snap
	for i, name := range namesOfPlaces(10) {
		list = append(list, doneSnap(name, "", fileAt("/a", fmt.Sprint("of ", i))))
	}
	names := namesIn(list)
	wantLive(t, "no roots", list, nil)
	wantLive(t, "all names", list, names, names...)
	wantLive(t, "all names twice", list, slices.Concat(names, names), names...)
	for i, name := range names {
		wantLive(t, "but "+name, list, slices.Delete(slices.Clone(names), i, i+1), slices.Delete(slices.Clone(names), i, i+1)...)
		wantLive(t, "alone "+name, list, []string{name}, name)
	}
	wantAnswer(t, "and one more", impl.LiveSnaps(list, append(slices.Concat(names, names), "q")), impl.NamedResult{Code: impl.ErrMany})
}

func TestSharedChunksKnown(t *testing.T) {
	list := sharingSnaps()
	one, two, three, short, lone, alone := chunkOf(partOne).Digest, chunkOf(partTwo).Digest, chunkOf(partThree).Digest, chunkOf(partShort).Digest, chunkOf(partLone).Digest, chunkOf("m alone").Digest
	wantLive(t, "no roots", list, nil, "a", "c", "m")
	wantLive(t, "b", list, []string{"b"}, "a", "b", "c", "m")
	wantAnswer(t, "in the order of names, not of chains", impl.LiveChunks(list, nil), ints(three, one, short, lone, alone))
	wantAnswer(t, "where it stands first", impl.LiveChunks(list, []string{"b"}), ints(three, one, two, short, lone, alone))
	wantAnswer(t, "of one alone", impl.LiveChunks(list[1:2], []string{"b"}), ints(two, short))
	wantAnswer(t, "of none", impl.LiveChunks(list[1:2], nil), ints())
	wantAnswer(t, "of the first of them", impl.LiveChunks(list[3:], []string{"m"}), ints(one, lone, alone))
	all := chunksOf(partOne, partTwo, partThree, partShort, partLone, "m alone", "no file", bytesOfZero)
	left := impl.CollectSnaps(list, nil).Snaps
	wantChunks(t, "of every layer, live or not", impl.CollectChunks(list, all), chunksOf(partOne, partTwo, partThree, partShort, partLone, "m alone"))
	wantChunks(t, "of what is left", impl.CollectChunks(left, all), chunksOf(partOne, partThree, partShort, partLone, "m alone"))
	wantChunks(t, "of what nobody holds", impl.CollectChunks(list[1:2], all), chunksOf(partTwo, partShort))
	wantChunks(t, "of none", impl.CollectChunks(impl.CollectSnaps(list[1:2], nil).Snaps, all), nil)
	wantChunks(t, "that are of none", impl.CollectChunks(list, chunksOf("no file", "none")), nil)
	wantChunks(t, "that are all of one", impl.CollectChunks(list, chunksOf(partLone, partTwo)), chunksOf(partLone, partTwo))
	wantChunks(t, "no chunks", impl.CollectChunks(list, nil), nil)
}

// TestWhatIsHiddenKeepsItsChunks: the file /g of m is not seen through a, but it is a file of some layer.
func TestWhatIsHiddenKeepsItsChunks(t *testing.T) {
	list, chunks := sharingSnaps(), chunksOf("m alone")
	if impl.LookOver(impl.ChainOf(list, "c").Layers, "/g").Code != impl.ErrNone {
		t.Fatal("/g is seen")
	}
	wantChunks(t, "while m is a parent", impl.CollectChunks(impl.CollectSnaps(list, nil).Snaps, chunks), chunks)
	free := impl.LeaseSnap(list, "c", false).Snaps
	wantChunks(t, "when all go", impl.CollectChunks(impl.CollectSnaps(free, nil).Snaps, chunks), nil)
}

// TestWhatHasNoChunks: directories, what is white, what is opaque, and files of no bytes.
func TestWhatHasNoChunks(t *testing.T) {
	bare := layerOf(dirAt("/a"), whiteAt("/a/b"), fileAt("/a/c", ""), opaqueAt("/d"), dirAt("/d/e"), whiteAt("/f"), opaqueAt("/g"), fileAt("/h", ""))
	for n := range len(bare) + 1 {
		for _, s := range snapsOf(doneSnap("a", "", bare[:n]...), activeSnap("a", "", bare[:n]...)) {
			for _, roots := range [][]string{nil, {"a"}} {
				wantAnswer(t, "LiveChunks", impl.LiveChunks(snapsOf(s), roots), ints())
				wantAnswer(t, "CollectChunks", impl.CollectChunks(snapsOf(s), chunksOf("a", bytesOfZero, "no file")), impl.ChunksResult{})
				wantCollected(t, snapsOf(s), roots, chunksOf("a", bytesOfZero))
			}
		}
	}
}

// TestOrderOfLiveChunks: as the entries tell them, by no number, of as many as there may be.
func TestOrderOfLiveChunks(t *testing.T) {
	var list []impl.Snap
	var want []int64
	for i, name := range namesOfPlaces(10) {
		s := leasedSnap(doneSnap(name, ""))
		for j := range 12 {
			first := int64(100000 - i*7000 - j*500)
			e := impl.Entry{Path: fmt.Sprintf("/f%c", 'a'+j), Kind: 1, Size: 24, Chunks: []int64{first, first + 1, first - 1}}
			s.Layer, want = append(s.Layer, e), append(want, e.Chunks...)
		}
		list = append(list, s)
	}
	if len(want) != 360 {
		t.Fatal("there may be more")
	}
	wantAnswer(t, "360 chunks", impl.LiveChunks(list, nil), ints(want...))
	for i := range list {
		list[i].Lease = i%2 == 1
	}
	var odd []int64
	for i := 1; i < 10; i += 2 {
		odd = append(odd, want[i*36:i*36+36]...)
	}
	wantAnswer(t, "180 chunks", impl.LiveChunks(list, nil), ints(odd...))
	wantAnswer(t, "the first ones, too", impl.LiveChunks(list, []string{list[0].Name}), ints(slices.Concat(want[:36], odd)...))
	again := snapsOf(leasedSnap(doneSnap("a", "", impl.Entry{Path: "/a", Kind: 1, Size: 24, Chunks: []int64{5, 5, 3}}, impl.Entry{Path: "/b", Kind: 1, Size: 20, Chunks: []int64{3, 0, 5}})), activeSnap("b", "", impl.Entry{Path: "/a", Kind: 1, Size: 9, Chunks: []int64{1<<32 - 1, 0}}))
	wantAnswer(t, "each once", impl.LiveChunks(again, nil), ints(5, 3, 0, 1<<32-1))
	wantAnswer(t, "each once, of the second alone", impl.LiveChunks(snapsOf(doneSnap("a", "", again[0].Layer...), again[1]), nil), ints(1<<32-1, 0))
}

// TestMostChunks: 40 chunks, all, none and each but one of which are of a file.
func TestMostChunks(t *testing.T) {
	texts := numberedTexts(40)
	all := chunksOf(texts...)
	var layers [][]impl.Entry
	for i, text := range texts {
		if i%10 == 0 {
			layers = append(layers, nil)
		}
		layers[i/10] = append(layers[i/10], fileOfChunks(fmt.Sprintf("/f%c", 'a'+i%10), int64(len(text)), text))
	}
	list := snapsOf(doneSnap("a", "b", layers[0]...), doneSnap("b", "", layers[1]...), activeSnap("c", "", layers[2]...), leasedSnap(doneSnap("d", "b", layers[3]...)))
	wantChunks(t, "all", impl.CollectChunks(list, all), all)
	wantChunks(t, "none", impl.CollectChunks(list, chunksOf("no file", "none", "neither")), nil)
	wantChunks(t, "of what is live", impl.CollectChunks(impl.CollectSnaps(list, nil).Snaps, all), chunksOf(texts[10:]...))
	for i := range texts {
		less := slices.Clone(list)
		less[i/10].Layer = slices.Delete(slices.Clone(layers[i/10]), i%10, i%10+1)
		wantChunks(t, fmt.Sprint("but ", i), impl.CollectChunks(less, all), chunksOf(slices.Delete(slices.Clone(texts), i, i+1)...))
		wantChunks(t, fmt.Sprint("one chunk, ", i), impl.CollectChunks(list, chunksOf(texts[i])), chunksOf(texts[i]))
		wantChunks(t, fmt.Sprint("one chunk that went, ", i), impl.CollectChunks(less, chunksOf(texts[i])), nil)
	}
}

// TestBytesOfTwoTextsStay: of one digest there may be one text or the other; the one that is there stays.
func TestBytesOfTwoTextsStay(t *testing.T) {
	list := endsOfDigests()
	for _, text := range []string{firstOfTwo, secondOfTwo, bytesOfZero, bytesOfOne, bytesNextBelow, bytesOfLargest} {
		wantChunks(t, text, impl.CollectChunks(list, chunksOf(text, "no file")), chunksOf(text))
		want := chunksOf(text)
		if text != bytesOfZero && text != bytesOfLargest {
			want = nil
		}
		wantChunks(t, text+", of what is left", impl.CollectChunks(impl.CollectSnaps(list, nil).Snaps, chunksOf(text, "no file")), want)
	}
}

// TestAllSmallForests: each parent, kind and lease of three snapshots with each choice of roots, and each parent of four with each one held or not.
func TestAllSmallForests(t *testing.T) {
	names, sizes := []string{"", "a", "b", "c", "d"}, map[int]int{}
	ask := func(list []impl.Snap, roots []string) {
		t.Helper()
		if impl.SnapsFault(list) != impl.OK {
			return
		}
		want := collectByHand(list, roots)
		live, dead := impl.LiveSnaps(list, roots), impl.DeadOf(list, roots)
		if !slices.Equal(live.Names, namesIn(want.live)) || !slices.Equal(dead.Names, namesIn(want.dead)) || live.Code != impl.OK || dead.Code != impl.OK {
			t.Fatalf("%s with the roots %q: %q are live and %q are not", told(list), roots, live.Names, dead.Names)
		}
		if left := impl.CollectSnaps(list, roots).Snaps; !slices.Equal(namesIn(left), live.Names) || impl.SnapsFault(left) != impl.OK {
			t.Fatalf("%s with the roots %q: %s is left", told(list), roots, told(left))
		}
		sizes[len(live.Names)]++
	}
	for parents := range 4 * 4 * 4 {
		for bits := range 8 * 8 * 8 {
			list := snapsOf(doneSnap("a", names[parents%4]), doneSnap("b", names[parents/4%4]), doneSnap("c", names[parents/16]))
			for i := range list {
				list[i].Kind, list[i].Lease = int64(1+bits>>i&1), bits>>(i+3)&1 == 1
			}
			ask(list, someOf(names[1:4], bits>>6))
		}
	}
	for parents := range 5 * 5 * 5 * 5 {
		for bits := range 16 * 16 {
			list := snapsOf(doneSnap("a", names[parents%5]), doneSnap("b", names[parents/5%5]), doneSnap("c", names[parents/25%5]), doneSnap("d", names[parents/125]))
			for i := range list {
				list[i].Lease = bits>>i&1 == 1
			}
			ask(list, someOf(names[1:], bits>>4))
		}
	}
	for n := range 5 {
		if sizes[n] < 80 {
			t.Errorf("%d came %d times to be live", n, sizes[n])
		}
	}
}

// someForest: up to ten snapshots, each on one that is there already or on none, in an order of names that says nothing of it.
func someForest(next func(n int) int) []impl.Snap {
	names := []string{"a", "bb", "ccc", "dddd", "e", "ff", "ggg", "hhhh", "i", "jj"}
	layers := append(layersToChain(), nil, fullLayer(12), sharingSnaps()[0].Layer, sharingSnaps()[1].Layer, layerOf(whiteAt("/a")), layerOf(opaqueAt("/a"), fileAt("/a/b", partTwo+partLone)))
	var list []impl.Snap
	for range next(11) {
		at := next(len(names))
		s := doneSnap(names[at], "", layers[next(len(layers))]...)
		names = slices.Delete(slices.Clone(names), at, at+1)
		if next(4) > 0 && len(list) > 0 {
			s.Parent = list[next(len(list))].Name
		}
		s.Lease = next(6) == 0
		if next(6) == 0 {
			s.Kind = impl.SnapActive
		}
		if with := withSnapByHand(list, s); impl.SnapsFault(with) == impl.OK {
			list = with
		}
	}
	return list
}

// TestManyForests: lists of every size and shape, with roots of every number.
func TestManyForests(t *testing.T) {
	spread := uint32(37)
	next := func(n int) int {
		spread = spread*1664525 + 1013904223
		return int(spread>>8) % n
	}
	sizes, both := map[int]int{}, 0
	chunks := chunkChoices()
	for range 1500 {
		list := someForest(next)
		var roots []string
		for range next(4) * next(8) {
			roots = append(roots, []string{"a", "bb", "ccc", "dddd", "q", "", "ff", "i"}[next(8)])
		}
		wantParted(t, list, roots)
		if len(roots) > 20 {
			continue
		}
		wantCollected(t, list, roots, chunks[next(len(chunks))])
		parts := collectByHand(list, roots)
		if sizes[len(list)]++; len(parts.live) > 0 && len(parts.dead) > 0 {
			both++
		}
	}
	if sizes[0] < 20 || sizes[1] < 20 || sizes[7] < 20 || both < 300 {
		t.Errorf("the lists have the sizes %v, and %d have some that go and some that stay", sizes, both)
	}
}

// grownStore: snapshots and chunks that grow and are collected, and beside them what each file of each snapshot has.
type grownStore struct {
	list   []impl.Snap
	chunks []impl.Chunk
	files  map[string]map[string]string
}

// grow makes a snapshot on a parent or on none, and writes files to it as a store would: to its layer, and to the chunks.
func (g *grownStore) grow(t *testing.T, name string, parent string, datas map[string]string) {
	t.Helper()
	got := impl.PrepareSnap(g.list, name, parent)
	if got.Code != impl.OK || got.Reply != impl.OK {
		return
	}
	list, chunks, files := got.Snaps, g.chunks, map[string]string{}
	maps.Copy(files, g.files[parent])
	for _, p := range slices.Sorted(maps.Keys(datas)) {
		data := datas[p]
		wrote, put := impl.WriteSnap(list, name, p, []byte(data), 1), impl.PutBytes(chunks, []byte(data))
		if wrote.Code != impl.OK || wrote.Reply != impl.OK || put.Code != impl.OK {
			return
		}
		list, chunks, files[p] = wrote.Snaps, put.Chunks, data
	}
	g.list, g.chunks, g.files[name] = list, chunks, files
}

// wantAllRead asks each file of each snapshot for its bytes.
func (g *grownStore) wantAllRead(t *testing.T) {
	t.Helper()
	for _, s := range g.list {
		layers := impl.ChainOf(g.list, s.Name).Layers
		if paths := impl.PathsOver(layers).Names; len(paths) != len(g.files[s.Name]) {
			t.Fatalf("%s has %q", s.Name, paths)
		}
		for p, data := range g.files[s.Name] {
			if read := impl.ReadOver(layers, g.chunks, p); read.Code != impl.OK || string(read.Bytes) != data {
				t.Fatalf("%s of %s: %s, not %q", p, s.Name, told(read), data)
			}
		}
	}
}

// collect takes what nobody holds, and asks that just the chunks of what is left are left.
func (g *grownStore) collect(t *testing.T, roots []string) (snaps int, chunks int) {
	t.Helper()
	left := impl.CollectSnaps(g.list, roots)
	kept := impl.CollectChunks(left.Snaps, g.chunks)
	if left.Code != impl.OK || kept.Code != impl.OK {
		t.Fatalf("%s and %s", told(left), told(kept))
	}
	snaps, chunks = len(g.list)-len(left.Snaps), len(g.chunks)-len(kept.Chunks)
	g.list, g.chunks = left.Snaps, kept.Chunks
	var datas []string
	for _, s := range left.Snaps {
		for _, e := range s.Layer {
			datas = append(datas, g.files[s.Name][e.Path])
		}
	}
	wantChunks(t, "what is left", kept, chunksFor(datas...))
	return snaps, chunks
}

// TestReadsStayFromCollectionToCollection goes on from list to list as a store would, and reads all files behind each step.
func TestReadsStayFromCollectionToCollection(t *testing.T) {
	spread := uint32(53)
	next := func(n int) int {
		spread = spread*1664525 + 1013904223
		return int(spread>>8) % n
	}
	letters := strings.Split("abcdefghijklmnopq", "")
	goneSnaps, goneChunks, stayed := 0, 0, 0
	for range 12 {
		g := &grownStore{files: map[string]map[string]string{}}
		for range 120 {
			name, parent, roots := letters[next(len(letters))], "", []string(nil)
			if len(g.list) > 0 && next(5) > 0 {
				parent = g.list[next(len(g.list))].Name
			}
			switch next(6) {
			case 0, 1, 2:
				datas := map[string]string{}
				for range next(4) {
					datas["/"+letters[next(6)]] = string(countedBytes(next(25)))
				}
				g.grow(t, name, parent, datas)
			case 3:
				g.list = impl.CommitSnap(g.list, name).Snaps
			case 4:
				g.list = impl.LeaseSnap(g.list, parent, next(4) == 0).Snaps
			default:
				for range next(4) {
					roots = append(roots, letters[next(len(letters))])
				}
				snaps, chunks := g.collect(t, roots)
				goneSnaps, goneChunks, stayed = goneSnaps+snaps, goneChunks+chunks, stayed+len(g.list)
			}
			g.wantAllRead(t)
		}
	}
	if goneSnaps < 30 || goneChunks < 30 || stayed < 100 {
		t.Errorf("%d snapshots and %d chunks went, and %d snapshots stayed", goneSnaps, goneChunks, stayed)
	}
}
