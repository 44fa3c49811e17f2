package tests

import (
	"fmt"
	"slices"
	"strings"
	"testing"

	"loop.example/g00299/impl"
)

// roomyNames: the same names with memory of their own, and room behind the list, where an append would write.
func roomyNames(names []string) []string {
	out := make([]string, 0, len(names)+4)
	for _, name := range names {
		out = append(out, strings.Clone(name))
	}
	return out
}

// memoryToCollect: lists of every shape, right ones and wrong ones, some of whose layers are one list.
func memoryToCollect() [][]impl.Snap {
	return append(memorySnaps(), roomySnaps(sharingSnaps()), roomySnaps(wrongFiles()), roomySnaps(endsOfDigests()))
}

func memoryRoots(list []impl.Snap) [][]string {
	names := namesIn(list[:min(10, len(list))])
	back := slices.Clone(names)
	slices.Reverse(back)
	roots := [][]string{nil, {}, {""}, {"q", "b", "b"}, names, back, slices.Concat(back, names), slices.Repeat([]string{"z"}, 21)}
	for i := range roots {
		roots[i] = roomyNames(roots[i])
	}
	return roots
}

// chunksToCollect: right ones and wrong ones, and some whose Bytes are pieces of one list.
func chunksToCollect() [][]impl.Chunk {
	lists := chunkChoices()
	for i, f := range faultyChunks() {
		if i%5 == 0 {
			lists = append(lists, f.list)
		}
	}
	for i, list := range lists {
		lists[i] = roomy(list)
	}
	return append(lists, oneListChunks(chunksOf(textsOfFiles()...)))
}

func collectCalls() []oneCall {
	var calls []oneCall
	for i, list := range memoryToCollect() {
		for _, roots := range memoryRoots(list) {
			add := func(name string, call func() any) {
				calls = append(calls, oneCall{fmt.Sprint(name, " of list ", i, " with ", len(roots)), call, []any{list, roots}})
			}
			add("LiveSnaps", func() any { return impl.LiveSnaps(list, roots) })
			add("DeadOf", func() any { return impl.DeadOf(list, roots) })
			add("LiveChunks", func() any { return impl.LiveChunks(list, roots) })
			add("CollectSnaps", func() any { return impl.CollectSnaps(list, roots) })
		}
		for j, chunks := range chunksToCollect() {
			calls = append(calls, oneCall{fmt.Sprint("CollectChunks of list ", i, " and ", j), func() any { return impl.CollectChunks(list, chunks) }, []any{list, chunks}})
		}
	}
	return calls
}

// TestCollectAnswersAreNewMemory also asks that each call comes back: a panic fails the test.
func TestCollectAnswersAreNewMemory(t *testing.T) {
	for _, c := range collectCalls() {
		askMemory(t, c)
	}
}

func TestCollectAnswersHangOnArgumentsAlone(t *testing.T) {
	askOrder(t, collectCalls())
}

func TestCollectAnswersAtOnce(t *testing.T) {
	askAtOnce(t, collectCalls())
}

// collectAnswers: one answer of each function, each with something in it.
type collectAnswers struct {
	live   impl.NamedResult
	dead   impl.NamedResult
	needed impl.IntsResult
	left   impl.SnapsResult
	kept   impl.ChunksResult
}

// collectToAnswer: snapshots of which some are live and some are not, with room behind their layers and with layers that are one list, and chunks of them.
func collectToAnswer() ([][]impl.Snap, []impl.Chunk) {
	one := sharingSnaps()[3].Layer
	oneLayer := snapsOf(doneSnap("a", "", one...), doneSnap("b", "c", one...), doneSnap("c", "", one[:2]...), leasedSnap(doneSnap("d", "", one[1:]...)))
	return [][]impl.Snap{roomySnaps(sharingSnaps()), oneLayer}, oneListChunks(chunksOf(textsOfFiles()...))
}

func answersOfCollect(list []impl.Snap, roots []string, chunks []impl.Chunk) collectAnswers {
	return collectAnswers{impl.LiveSnaps(list, roots), impl.DeadOf(list, nil), impl.LiveChunks(list, roots), impl.CollectSnaps(list, roots), impl.CollectChunks(list, chunks)}
}

func toldAnswers(a collectAnswers) string {
	return told([]any{a.live, a.dead, a.needed, a.left, a.kept})
}

func TestCollectAnswersShowSomething(t *testing.T) {
	lists, chunks := collectToAnswer()
	for i, list := range lists {
		if a := answersOfCollect(list, []string{"b"}, chunks); len(a.live.Names) < 2 || len(a.dead.Names) < 1 || len(a.needed.List) < 2 || len(a.left.Snaps) < 2 || len(a.kept.Chunks) < 2 {
			t.Errorf("list %d: %s", i, toldAnswers(a))
		}
	}
}

// TestCollectedOutlivesTheArguments writes over all that was handed in, and asks the answers again.
func TestCollectedOutlivesTheArguments(t *testing.T) {
	for i := range 2 {
		lists, chunks := collectToAnswer()
		list, roots := lists[i], roomyNames([]string{"b", "q", "m"})
		answers := answersOfCollect(list, roots, chunks)
		before := toldAnswers(answers)
		for _, s := range list {
			wipe(s.Layer)
		}
		clear(list[:cap(list)])
		clear(roots[:cap(roots)])
		for _, c := range chunks {
			fill(c.Bytes, 0xee)
		}
		clear(chunks)
		if toldAnswers(answers) != before {
			t.Fatalf("list %d: an answer turned with its arguments", i)
		}
	}
}

// TestCollectedSnapsAreTheirOwn writes over one snapshot of what is left, and asks the others, the arguments, and another answer.
func TestCollectedSnapsAreTheirOwn(t *testing.T) {
	lists, _ := collectToAnswer()
	for i, list := range lists {
		before := wholeMemory(list)
		roots := namesIn(list)
		want := impl.CollectSnaps(list, roots)
		text := told(want)
		for one := range want.Snaps {
			got := impl.CollectSnaps(list, roots)
			overSnap(&got.Snaps[one])
			got.Snaps[one] = want.Snaps[one]
			if told(got) != text || told(want) != text || wholeMemory(list) != before {
				t.Fatalf("list %d: snapshot %d of what is left has not its own", i, one)
			}
		}
	}
}

// TestCollectedChunksAreTheirOwn writes over one chunk of what is left, to the capacity of its Bytes, and asks the others and the arguments.
func TestCollectedChunksAreTheirOwn(t *testing.T) {
	lists, chunks := collectToAnswer()
	before := wholeMemory(chunks)
	for i, list := range lists {
		want := impl.CollectChunks(list, chunks)
		text := told(want)
		for one := range want.Chunks {
			got := impl.CollectChunks(list, chunks)
			fill(got.Chunks[one].Bytes[:cap(got.Chunks[one].Bytes)], 0xee)
			got.Chunks[one] = want.Chunks[one]
			if told(got) != text || wholeMemory(chunks) != before {
				t.Fatalf("list %d: chunk %d of what is left has not its own", i, one)
			}
		}
	}
}

// TestTextsOfCollectedShareNoMemory asks by addresses, as a text that is the argument's reads like a copy.
func TestTextsOfCollectedShareNoMemory(t *testing.T) {
	lists, chunks := collectToAnswer()
	for i, list := range lists {
		for _, roots := range [][]string{nil, roomyNames([]string{"b"}), namesIn(list), roomyNames(namesIn(list))} {
			arguments, a := append(textsOfSnaps(list), roots...), answersOfCollect(list, roots, chunks)
			for at, texts := range [][]string{a.live.Names, a.dead.Names, textsOfSnaps(a.left.Snaps)} {
				wantOwnSpans(t, fmt.Sprint("list ", i, ", answer ", at), texts, arguments)
			}
		}
	}
}
