package tests

import (
	"fmt"
	"slices"
	"testing"

	"loop.example/g00299/impl"
)

// wantRootsCode asks the four functions that take roots for one code, with nothing else in the answer.
func wantRootsCode(t *testing.T, name string, list []impl.Snap, roots []string, code int64) {
	t.Helper()
	name = fmt.Sprint(name, ", ", len(roots), " roots: ")
	wantAnswer(t, name+"LiveSnaps", impl.LiveSnaps(list, roots), impl.NamedResult{Code: code})
	wantAnswer(t, name+"DeadOf", impl.DeadOf(list, roots), impl.NamedResult{Code: code})
	wantAnswer(t, name+"LiveChunks", impl.LiveChunks(list, roots), impl.IntsResult{Code: code})
	wantAnswer(t, name+"CollectSnaps", impl.CollectSnaps(list, roots), impl.SnapsResult{Code: code})
}

func wantKeptCode(t *testing.T, name string, list []impl.Snap, chunks []impl.Chunk, code int64) {
	t.Helper()
	wantAnswer(t, name+": CollectChunks", impl.CollectChunks(list, chunks), impl.ChunksResult{Code: code})
}

// tooManyRoots: of names that are none, of the list's own, of nothing, and so many that a smaller number would pass for few.
func tooManyRoots(list []impl.Snap) [][]string {
	own := append(namesIn(list), "q")
	return [][]string{
		slices.Repeat([]string{"q"}, 21), slices.Repeat([]string{""}, 21), slices.Repeat(own[:1], 21), slices.Repeat(own, 21), slices.Repeat([]string{"abcde"}, 22),
		append(slices.Repeat([]string{"q"}, 20), own[0]), append([]string{own[0]}, slices.Repeat([]string{"q"}, 20)...),
		slices.Repeat([]string{"q"}, 256), slices.Repeat([]string{"q"}, 256+20), slices.Repeat([]string{"A"}, 1<<16+1),
	}
}

// TestTooManyRoots: a code of its own, whatever is live.
func TestTooManyRoots(t *testing.T) {
	for i, list := range listsToCollect() {
		for _, roots := range tooManyRoots(list) {
			wantRootsCode(t, fmt.Sprint("list ", i), list, roots, impl.ErrMany)
		}
		if got := impl.LiveSnaps(list, slices.Repeat([]string{"q"}, 20)); got.Code != impl.OK {
			t.Errorf("list %d, 20 roots: %s", i, told(got))
		}
	}
}

// TestFaultOfTheSnapsAheadOfRoots hands each faulty list in with roots that are right and with too many.
func TestFaultOfTheSnapsAheadOfRoots(t *testing.T) {
	for i, f := range faultySnapLists() {
		for _, roots := range [][]string{nil, {"a"}, namesIn(f.list)[:min(20, len(f.list))], slices.Repeat([]string{""}, 20)} {
			wantRootsCode(t, f.name, f.list, roots, f.code)
		}
		many := tooManyRoots(f.list)
		wantRootsCode(t, f.name, f.list, many[i%9], f.code)
		wantRootsCode(t, f.name, f.list, many[(i+4)%9], f.code)
	}
}

// TestFaultOfTheSnapsAheadOfChunks hands each faulty list in with chunks that are right and with faulty ones.
func TestFaultOfTheSnapsAheadOfChunks(t *testing.T) {
	right, wrong := chunkChoices(), faultyChunks()
	for i, f := range faultySnapLists() {
		wantKeptCode(t, f.name, f.list, nil, f.code)
		wantKeptCode(t, f.name, f.list, right[i%len(right)], f.code)
		for j := range 4 {
			other := wrong[(i+j*11)%len(wrong)]
			wantKeptCode(t, f.name+", and "+other.name, f.list, other.list, f.code)
		}
	}
}

// TestTwoFaultsOfSnapsToCollect: of two faults of one list the first in the document's order is told, here as by SnapsFault.
func TestTwoFaultsOfSnapsToCollect(t *testing.T) {
	many, wrong := slices.Repeat([]string{"q"}, 21), faultyChunks()
	for _, behind := range []bool{false, true} {
		all := faultsOfSnaps(behind)
		for i, one := range all {
			for j := i + 1; j < len(all); j += 1 + (i+j)%9 {
				if one.field == all[j].field {
					continue
				}
				f := withSnapFaults(behind, one, all[j])
				wantRootsCode(t, f.name, f.list, [][]string{nil, many}[j%2], f.code)
				wantKeptCode(t, f.name, f.list, wrong[(i+j)%len(wrong)].list, f.code)
			}
		}
	}
}

// TestFaultOfTheChunks: each one, whatever the snapshots are, if they have no fault.
func TestFaultOfTheChunks(t *testing.T) {
	for _, f := range faultyChunks() {
		for i, list := range listsToCollect() {
			wantKeptCode(t, fmt.Sprint(f.name, ", list ", i), list, f.list, f.code)
		}
	}
}

// TestFaultOfChunksThatWouldGo: chunks are asked ahead of what goes, so that one that no file has is wrong, too.
func TestFaultOfChunksThatWouldGo(t *testing.T) {
	list := snapsOf(doneSnap("a", "", fileAt("/a", partOne)))
	with := func(c impl.Chunk) []impl.Chunk {
		return append(chunksOf(partOne), c)
	}
	if chunkOf(partOne).Digest >= 1<<32-2 {
		t.Fatal("nothing is above the chunk")
	}
	wantKeptCode(t, "other bytes", list, with(impl.Chunk{Digest: 1<<32 - 1, Bytes: []byte("x")}), impl.ErrSum)
	wantKeptCode(t, "no bytes", list, with(impl.Chunk{Digest: 1<<32 - 1}), impl.ErrMany)
	wantKeptCode(t, "no digest", list, with(impl.Chunk{Digest: 1 << 32, Bytes: []byte("x")}), impl.ErrRange)
	wantKeptCode(t, "falls", list, with(chunkOf(bytesOfZero)), impl.ErrForm)
	wantChunks(t, "none of them", impl.CollectChunks(list, with(chunkOf(bytesOfLargest))), chunksOf(partOne))
}

// TestFaultOfWhatWouldGo: snapshots are asked ahead of what goes, so that one that nobody holds is wrong, too.
func TestFaultOfWhatWouldGo(t *testing.T) {
	held := leasedSnap(doneSnap("a", "", fullLayer(3)...))
	for _, k := range []struct {
		name string
		list []impl.Snap
		code int64
	}{
		{"no kind", snapsOf(held, impl.Snap{Name: "b"}), impl.ErrForm},
		{"no name", snapsOf(held, doneSnap("B", "")), impl.ErrText},
		{"a layer", snapsOf(held, doneSnap("b", "", fileAt("/a/b", ""))), impl.ErrDir},
		{"no parent", snapsOf(held, doneSnap("b", "q")), impl.ErrNone},
		{"an active parent", snapsOf(held, activeSnap("b", ""), doneSnap("c", "b")), impl.ErrState},
		{"its own parent", snapsOf(held, doneSnap("b", "b")), impl.ErrMany},
		{"two that go round", snapsOf(held, doneSnap("b", "c"), doneSnap("c", "b")), impl.ErrMany},
		{"five on one another", append(snapsOf(held), chainInOrder(4, 2, 0, 1, 3)...), impl.ErrMany},
		{"eleven", append(snapsOf(held), slices.Repeat(snapsOf(doneSnap("b", "")), 10)...), impl.ErrMany},
	} {
		wantRootsCode(t, k.name, k.list, nil, k.code)
		wantRootsCode(t, k.name, k.list, []string{"b", "c"}, k.code)
		wantKeptCode(t, k.name, k.list, chunksOf("b"), k.code)
	}
}
