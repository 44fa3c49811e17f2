package tests

import (
	"testing"

	"loop.example/g00299/impl"
)

// memoryStacks: layers one above the other, some of them with a fault, each of memory of its own.
func memoryStacks() [][][]impl.Entry {
	layers := memoryLayersOver()
	stacks := [][][]impl.Entry{nil, {}}
	for i := range layers {
		more := append(layers[i:len(layers):len(layers)], layers...)
		for _, n := range []int{1, 2, 4, 5} {
			stacks = append(stacks, roomyLayers(more[:n]...))
		}
		stacks = append(stacks, roomyLayers(layers[i], layers[i], layers[i]))
	}
	below := roomyLayer(layerOf(dirAt("/a"), fileAt("/a/b", "x"), dirAt("/a/c"), fallingFile("/a/c/d"), fallingFile("/d")))
	above := roomyLayer(layerOf(dirAt("/a"), whiteAt("/a/b"), opaqueAt("/a/c"), fileAt("/a/c/e", "abcdefghi"), fileAt("/aa", "")))
	return append(stacks, roomyLayers(below, above), roomyLayers(above, below), roomyLayers(below, above, below), roomyLayers(oneListLayer(), above))
}

func overCalls() []oneCall {
	var calls []oneCall
	add := func(name string, call func() any, arguments ...any) {
		calls = append(calls, oneCall{name, call, arguments})
	}
	for _, layers := range memoryStacks() {
		add("PathsOver", func() any { return impl.PathsOver(layers) }, layers)
		for _, path := range memoryPaths() {
			add("LookOver "+path, func() any { return impl.LookOver(layers, path) }, layers)
			add("ListOver "+path, func() any { return impl.ListOver(layers, path) }, layers)
			add("PlaceOver "+path, func() any { return impl.PlaceOver(layers, path) }, layers)
		}
	}
	for _, layer := range memoryLayersOver() {
		for _, path := range memoryPaths() {
			add("HidesBelow "+path, func() any { return impl.HidesBelow(layer, path) }, layer)
		}
	}
	return calls
}

// TestOverAnswersAreNewMemory also asks that each call comes back: a panic fails the test.
func TestOverAnswersAreNewMemory(t *testing.T) {
	for _, c := range overCalls() {
		askMemory(t, c)
	}
}

func TestOverAnswersHangOnArgumentsAlone(t *testing.T) {
	askOrder(t, overCalls())
}

func TestOverAnswersAtOnce(t *testing.T) {
	askAtOnce(t, overCalls())
}

// TestTextsOfWhatIsSeenShareNoMemory asks by addresses, as a path or a name that is the argument's reads like a copy.
func TestTextsOfWhatIsSeenShareNoMemory(t *testing.T) {
	for _, layers := range memoryStacks() {
		texts := pathsIn(layers...)
		for _, argument := range texts {
			wantOwnTexts(t, argument, impl.PathsOver(layers).Names...)
			wantOwnTexts(t, argument, impl.ListOver(layers, "/").Names...)
		}
		for _, path := range append(memoryPaths(), texts...) {
			wantOwnPaths(t, "LookOver "+path, impl.LookOver(layers, path), append(texts[:len(texts):len(texts)], path)...)
			names := impl.ListOver(layers, path).Names
			wantOwnTexts(t, path, names...)
			for _, argument := range texts {
				wantOwnTexts(t, argument, names...)
			}
		}
	}
}

// TestWhatIsSeenOutlivesTheArguments writes over all that was handed in, and asks the answers again.
func TestWhatIsSeenOutlivesTheArguments(t *testing.T) {
	for i := range memoryStacks() {
		layers := memoryStacks()[i]
		answers := []any{impl.PathsOver(layers)}
		for _, path := range memoryPaths() {
			answers = append(answers, impl.LookOver(layers, path), impl.ListOver(layers, path), impl.PlaceOver(layers, path))
		}
		before := told(answers)
		for _, layer := range layers {
			wipe(layer)
		}
		clear(layers)
		if told(answers) != before {
			t.Fatalf("stack %d: an answer turned with its arguments", i)
		}
	}
}

// TestWhatIsSeenTwiceIsNotTheSameMemory writes over one answer, to its capacity, and asks again.
func TestWhatIsSeenTwiceIsNotTheSameMemory(t *testing.T) {
	layers := roomyLayers(oneListLayer(), roomyLayer(fullLayer(12)))
	ask := func() (impl.LayerResult, impl.NamesResult, impl.NamesResult) {
		return impl.LookOver(layers, "/c"), impl.ListOver(layers, "/"), impl.PathsOver(layers)
	}
	look, list, paths := ask()
	want := told([]any{look, list, paths})
	chunks := look.Layer[0].Chunks
	clear(chunks[:cap(chunks)])
	clear(look.Layer[:cap(look.Layer)])
	for _, names := range [][]string{list.Names, paths.Names} {
		names = names[:cap(names)]
		for i := range names {
			names[i] = "!"
		}
	}
	look, list, paths = ask()
	if got := told([]any{look, list, paths}); got != want {
		t.Errorf("asked again: %s, not %s", got, want)
	}
}
