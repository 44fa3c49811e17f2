package tests

import (
	"fmt"
	"slices"
	"strings"
	"testing"

	"loop.example/g00299/impl"
)

// roomySnaps: the same list with texts of its own, and room behind each of its lists, where an append would write.
func roomySnaps(list []impl.Snap) []impl.Snap {
	out := make([]impl.Snap, 0, len(list)+4)
	for _, s := range list {
		s.Name, s.Parent, s.Layer = strings.Clone(s.Name), strings.Clone(s.Parent), roomyLayer(s.Layer)
		out = append(out, s)
	}
	return out
}

// oneLayerSnaps: snapshots whose layers are one list, the Chunks in which are one list too; an answer may not go on sharing them.
func oneLayerSnaps() []impl.Snap {
	layer := oneListLayer()
	return snapsOf(doneSnap("a", "", layer...), doneSnap("b", "a", layer[:2]...), leasedSnap(activeSnap("c", "b", layer...)), doneSnap("d", "", layer[1:]...), activeSnap("e", "", layer[:0]...))
}

// emptyLayerSnaps: layers of no entries that still point to a list.
func emptyLayerSnaps() []impl.Snap {
	layer := make([]impl.Entry, 0, 8)
	return snapsOf(doneSnap("a", "", layer...), activeSnap("b", "a", layer...))
}

func memorySnaps() [][]impl.Snap {
	lists := append(rightSnapLists()[:9], rightSnapLists()[len(rightSnapLists())-6:]...)
	lists = append(lists, snapsOf(doneSnap("a", "", fallingFile("/a"), fallingFile("/b")), activeSnap("b", "a", fallingFile("/b"))))
	for i, f := range faultySnapLists() {
		if i%9 == 0 {
			lists = append(lists, f.list)
		}
	}
	for i, list := range lists {
		lists[i] = roomySnaps(list)
	}
	return append(lists, oneLayerSnaps(), emptyLayerSnaps(), nil)
}

func snapCalls() []oneCall {
	var calls []oneCall
	datas, paths, layers := chunkDatas(), memoryPaths(), memoryLayersOver()
	for i, list := range memorySnaps() {
		add := func(name string, call func() any, arguments ...any) {
			calls = append(calls, oneCall{name, call, append(arguments, list)})
		}
		add("SnapsFault", func() any { return impl.SnapsFault(list) })
		names := []string{"", "x", "abcde"}
		for _, s := range list[:min(10, len(list))] {
			names = append(names, s.Name)
		}
		for j, name := range names {
			parent, layer := names[(i+j*3)%len(names)], layers[(i+j)%len(layers)]
			add("ChainOf "+name, func() any { return impl.ChainOf(list, name) })
			add("CommitSnap "+name, func() any { return impl.CommitSnap(list, name) })
			add("RemoveSnap "+name, func() any { return impl.RemoveSnap(list, name) })
			add("LeaseSnap "+name, func() any { return impl.LeaseSnap(list, name, j%2 == 0) })
			add("PrepareSnap "+name, func() any { return impl.PrepareSnap(list, name, parent) })
			add("PrepareSnap x on "+name, func() any { return impl.PrepareSnap(list, "x", name) })
			add("AddSnap "+name, func() any { return impl.AddSnap(list, name, parent, layer) }, layer)
			add("AddSnap x on "+name, func() any { return impl.AddSnap(list, "x", name, layer) }, layer)
			for k := range 8 {
				kind, p, data := int64((j+k)%5), paths[(i+j+k*3)%len(paths)], datas[(i+k)%len(datas)]
				add(fmt.Sprint("WriteSnap ", name, p, kind), func() any { return impl.WriteSnap(list, name, p, data, kind) }, data)
			}
		}
		for _, s := range list[:min(3, len(list))] {
			add("AddSnap of a layer of the list", func() any { return impl.AddSnap(list, "x", "", s.Layer) })
			add("AddSnap of a layer of the list, on its own", func() any { return impl.AddSnap(list, "x", s.Name, s.Layer) })
		}
	}
	return calls
}

// TestSnapAnswersAreNewMemory also asks that each call comes back: a panic fails the test.
func TestSnapAnswersAreNewMemory(t *testing.T) {
	for _, c := range snapCalls() {
		askMemory(t, c)
	}
}

func TestSnapAnswersHangOnArgumentsAlone(t *testing.T) {
	askOrder(t, snapCalls())
}

func TestSnapAnswersAtOnce(t *testing.T) {
	askAtOnce(t, snapCalls())
}

// answersOfSnaps: each function, with a Reply and without, of each name of the list.
func answersOfSnaps(list []impl.Snap, layer []impl.Entry, data []byte) (snaps []impl.SnapsResult, chains []impl.LayersResult) {
	snaps = []impl.SnapsResult{
		impl.PrepareSnap(list, "x", ""), impl.PrepareSnap(list, "", ""), impl.AddSnap(list, "x", "", layer), impl.AddSnap(list, "x", "q", layer),
		impl.CommitSnap(list, "q"), impl.RemoveSnap(list, "q"), impl.LeaseSnap(list, "q", true), impl.WriteSnap(list, "q", "/z", data, 1),
	}
	for _, s := range list {
		chains = append(chains, impl.ChainOf(list, s.Name))
		snaps = append(snaps,
			impl.PrepareSnap(list, "x", s.Name), impl.AddSnap(list, "x", s.Name, layer), impl.CommitSnap(list, s.Name), impl.RemoveSnap(list, s.Name),
			impl.LeaseSnap(list, s.Name, true), impl.LeaseSnap(list, s.Name, false),
			impl.WriteSnap(list, s.Name, "/z", data, 1), impl.WriteSnap(list, s.Name, "/z", nil, 2), impl.WriteSnap(list, s.Name, "/a", nil, 3), impl.WriteSnap(list, s.Name, "/A", data, 1),
		)
	}
	return snaps, chains
}

// listsToAnswer: lists with something in each of their lists, some of it shared.
func listsToAnswer() [][]impl.Snap {
	return [][]impl.Snap{roomySnaps(someSnaps()), oneLayerSnaps(), emptyLayerSnaps(), roomySnaps(snapsOf(doneSnap("a", "", fallingFile("/a")), activeSnap("b", "a", fallingFile("/b"))))}
}

func TestSnapAnswersShowSomething(t *testing.T) {
	for i, list := range listsToAnswer() {
		snaps, chains := answersOfSnaps(list, fullLayer(3), []byte("bytes"))
		replies := 0
		for _, got := range snaps {
			if got.Code != impl.OK || len(got.Snaps) < len(list)-1 {
				t.Errorf("list %d: %s", i, told(got))
			}
			if got.Reply != impl.OK {
				replies++
			}
		}
		if replies < 8 || len(snaps)-replies < 8 {
			t.Errorf("list %d: %d Replies of %d", i, replies, len(snaps))
		}
		for _, got := range chains {
			if got.Code != impl.OK || len(got.Layers) == 0 {
				t.Errorf("list %d: %s", i, told(got))
			}
		}
	}
}

// TestSnapsOutliveTheArguments writes over all that was handed in, and asks the answers again.
func TestSnapsOutliveTheArguments(t *testing.T) {
	for i := range listsToAnswer() {
		list, layer, data := listsToAnswer()[i], roomyLayer(layersToChain()[0]), []byte("bytes of three chunks")
		snaps, chains := answersOfSnaps(list, layer, data)
		before := told([]any{snaps, chains})
		for _, s := range list {
			wipe(s.Layer)
		}
		clear(list[:cap(list)])
		wipe(layer)
		fill(data, 0xee)
		if told([]any{snaps, chains}) != before {
			t.Fatalf("list %d: an answer turned with its arguments", i)
		}
	}
}

// overSnap writes over all that one snapshot has, to the capacity of its lists.
func overSnap(s *impl.Snap) {
	for _, e := range s.Layer {
		clear(e.Chunks[:cap(e.Chunks)])
	}
	clear(s.Layer[:cap(s.Layer)])
	*s = impl.Snap{}
}

// TestSnapsOfOneAnswerAreTheirOwn writes over one snapshot of each answer, and asks the others, the arguments, and the answer of another call.
func TestSnapsOfOneAnswerAreTheirOwn(t *testing.T) {
	data, layer := []byte("bytes of three chunks"), oneListLayer()
	for i, list := range listsToAnswer() {
		arguments := []any{list, layer, data}
		before := wholeMemory(arguments)
		again, _ := answersOfSnaps(list, layer, data)
		want := told(again)
		for one := range len(list) + 1 {
			got, _ := answersOfSnaps(list, layer, data)
			for at := range got {
				if one < len(got[at].Snaps) {
					overSnap(&got[at].Snaps[one])
					got[at].Snaps[one] = again[at].Snaps[one]
				}
			}
			if told(got) != want || told(again) != want {
				t.Fatalf("list %d: snapshot %d of an answer has not its own", i, one)
			}
		}
		if wholeMemory(arguments) != before {
			t.Fatalf("list %d: an argument turned with an answer", i)
		}
	}
}

// TestLayersOfOneChainAreTheirOwn writes over one layer of a chain, to its capacity, and asks the others, the list, and another call.
func TestLayersOfOneChainAreTheirOwn(t *testing.T) {
	for i, list := range listsToAnswer() {
		before := wholeMemory(list)
		for _, s := range list {
			want := impl.ChainOf(list, s.Name)
			for at := range want.Layers {
				got := impl.ChainOf(list, s.Name)
				over := impl.Snap{Layer: got.Layers[at]}
				overSnap(&over)
				got.Layers[at] = want.Layers[at]
				if told(got) != told(want) || wholeMemory(list) != before {
					t.Fatalf("list %d, the chain of %s: layer %d is not its own", i, s.Name, at)
				}
			}
			got := impl.ChainOf(list, s.Name)
			clear(got.Layers[:cap(got.Layers)])
			wantAnswer(t, "the chain asked again", impl.ChainOf(list, s.Name), want)
		}
	}
}

func textsOfSnaps(list []impl.Snap) []string {
	var texts []string
	for _, s := range list {
		texts = append(append(texts, s.Name, s.Parent), pathsIn(s.Layer)...)
	}
	return texts
}

// TestTextsOfSnapsShareNoMemory asks by addresses, as a text that is the argument's reads like a copy.
func TestTextsOfSnapsShareNoMemory(t *testing.T) {
	layer := roomyLayer(layersToChain()[0])
	for i, list := range listsToAnswer()[:2] {
		name, parent := strings.Clone("x"), strings.Clone(list[0].Name)
		arguments := append(append(textsOfSnaps(list), pathsIn(layer)...), name, parent)
		snaps, chains := answersOfSnaps(list, layer, nil)
		answers := [][]string{textsOfSnaps(impl.PrepareSnap(list, name, parent).Snaps), textsOfSnaps(impl.AddSnap(list, name, parent, layer).Snaps)}
		for _, got := range snaps {
			answers = append(answers, textsOfSnaps(got.Snaps))
		}
		for _, got := range chains {
			answers = append(answers, pathsIn(got.Layers...))
		}
		for at, texts := range answers {
			wantOwnSpans(t, fmt.Sprint("list ", i, ", answer ", at), texts, arguments)
		}
	}
}

// wantOwnSpans asks that no two of the texts, and none of them and an argument, have a byte in common.
func wantOwnSpans(t *testing.T, name string, texts []string, arguments []string) {
	t.Helper()
	for i, text := range texts {
		own := textSpan("answer "+text, text)
		for _, other := range slices.Concat(texts[i+1:], arguments) {
			span := textSpan("other "+other, other)
			if own.start < span.end && span.start < own.end {
				t.Fatalf("%s: %s and %s share memory", name, own.name, span.name)
			}
		}
	}
}
