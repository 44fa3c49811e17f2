package tests

import (
	"testing"

	"loop.example/g00299/impl"
)

// memoryMount: lowers and an upper, each layer of memory of its own but where one layer is handed in twice.
type memoryMount struct {
	lowers [][]impl.Entry
	upper  []impl.Entry
}

func memoryMounts() []memoryMount {
	layers := memoryLayersOver()
	mounts := []memoryMount{{nil, nil}, {[][]impl.Entry{}, []impl.Entry{}}}
	for i, upper := range layers {
		more := append(layers[i:len(layers):len(layers)], layers...)
		for _, n := range []int{0, 1, 3, 4} {
			mounts = append(mounts, memoryMount{roomyLayers(more[1 : n+1]...), upper})
		}
		mounts = append(mounts, memoryMount{roomyLayers(upper, upper), upper})
	}
	below := roomyLayer(layerOf(dirAt("/a"), fallingFile("/a/b"), dirAt("/a/c"), fallingFile("/a/c/d"), fallingFile("/d")))
	above := roomyLayer(layerOf(dirAt("/a"), whiteAt("/a/b"), opaqueAt("/a/c"), fileAt("/a/c/e", "abcdefghi"), fileAt("/aa", "")))
	return append(mounts,
		memoryMount{roomyLayers(below), above}, memoryMount{roomyLayers(above, below), roomyLayer(nil)}, memoryMount{roomyLayers(below), roomyLayer(layerOf(whiteAt("/a"), fallingFile("/b")))},
		memoryMount{roomyLayers(below), oneListLayer()}, memoryMount{roomyLayers(oneListLayer()), roomyLayer(layerOf(fallingFile("/z")))},
		memoryMount{roomyLayers(below), roomyLayer(numberedFiles("m", 12))}, memoryMount{roomyLayers(below), roomyLayer(numberedFiles("m", 10))},
	)
}

func mountCalls() []oneCall {
	var calls []oneCall
	add := func(name string, call func() any, arguments ...any) {
		calls = append(calls, oneCall{name, call, arguments})
	}
	datas := chunkDatas()
	for i, m := range memoryMounts() {
		add("ViewOver", func() any { return impl.ViewOver(m.lowers, m.upper) }, m.lowers, m.upper)
		for j, path := range memoryPaths() {
			data := datas[(i+j)%len(datas)]
			add("WriteOver "+path, func() any { return impl.WriteOver(m.lowers, m.upper, path, data) }, m.lowers, m.upper, data)
			add("MakeOver "+path, func() any { return impl.MakeOver(m.lowers, m.upper, path) }, m.lowers, m.upper)
			add("RemoveOver "+path, func() any { return impl.RemoveOver(m.lowers, m.upper, path) }, m.lowers, m.upper)
			add("CopyUp "+path, func() any { return impl.CopyUp(m.lowers, m.upper, path) }, m.lowers, m.upper)
		}
	}
	return calls
}

// TestMountAnswersAreNewMemory also asks that each call comes back: a panic fails the test.
func TestMountAnswersAreNewMemory(t *testing.T) {
	for _, c := range mountCalls() {
		askMemory(t, c)
	}
}

func TestMountAnswersHangOnArgumentsAlone(t *testing.T) {
	askOrder(t, mountCalls())
}

func TestMountAnswersAtOnce(t *testing.T) {
	askAtOnce(t, mountCalls())
}

// TestPathsOfMountsShareNoMemory asks by addresses, as a path that is the argument's reads like a copy.
func TestPathsOfMountsShareNoMemory(t *testing.T) {
	for _, m := range memoryMounts() {
		texts := append(pathsIn(m.lowers...), pathsIn(m.upper)...)
		wantOwnPaths(t, "ViewOver", impl.LayerResult{Layer: impl.ViewOver(m.lowers, m.upper).Tree}, texts...)
		for _, path := range append(memoryPaths(), texts...) {
			with := append(texts[:len(texts):len(texts)], path)
			for _, got := range []impl.MountResult{
				impl.WriteOver(m.lowers, m.upper, path, []byte("x")), impl.MakeOver(m.lowers, m.upper, path),
				impl.RemoveOver(m.lowers, m.upper, path), impl.CopyUp(m.lowers, m.upper, path),
			} {
				wantOwnPaths(t, "upper behind "+path, impl.LayerResult{Layer: got.Upper}, with...)
			}
		}
	}
}

// TestMountsOutliveTheArguments writes over all that was handed in, and asks the answers again.
func TestMountsOutliveTheArguments(t *testing.T) {
	for i := range memoryMounts() {
		m, data := memoryMounts()[i], []byte("abcdefghijklmnopqrstuvwx")
		answers := []any{impl.ViewOver(m.lowers, m.upper)}
		for _, path := range memoryPaths() {
			answers = append(answers,
				impl.WriteOver(m.lowers, m.upper, path, data), impl.MakeOver(m.lowers, m.upper, path),
				impl.RemoveOver(m.lowers, m.upper, path), impl.CopyUp(m.lowers, m.upper, path))
		}
		before := told(answers)
		for _, layer := range m.lowers {
			wipe(layer)
		}
		clear(m.lowers)
		wipe(m.upper)
		fill(data, 0xee)
		if told(answers) != before {
			t.Fatalf("mount %d: an answer turned with its arguments", i)
		}
	}
}

// TestChunksOfOneUpperAreTheirOwn writes over the Chunks of each entry of an answer, to their capacity, and asks the others.
func TestChunksOfOneUpperAreTheirOwn(t *testing.T) {
	list := oneListLayer()
	lowers, mixed := [][]impl.Entry{list}, layerOf(list[1], list[2], list[3])
	for _, answer := range []func() []impl.Entry{
		func() []impl.Entry { return impl.WriteOver(nil, list, "/a", []byte("abcdefghi")).Upper },
		func() []impl.Entry { return impl.WriteOver(nil, list, "/d", nil).Upper },
		func() []impl.Entry { return impl.WriteOver(nil, list, "/z/z", nil).Upper },
		func() []impl.Entry { return impl.MakeOver(nil, list, "/d/e").Upper },
		func() []impl.Entry { return impl.MakeOver(nil, list, "/a").Upper },
		func() []impl.Entry { return impl.RemoveOver(nil, list, "/d").Upper },
		func() []impl.Entry { return impl.RemoveOver(lowers, list, "/a").Upper },
		func() []impl.Entry { return impl.RemoveOver(nil, list, "/z").Upper },
		func() []impl.Entry { return impl.CopyUp(lowers, mixed, "/a").Upper },
		func() []impl.Entry { return impl.CopyUp(lowers, list, "/b").Upper },
		func() []impl.Entry { return impl.CopyUp(lowers, list, "/z").Upper },
		func() []impl.Entry { return impl.ViewOver(lowers, nil).Tree },
		func() []impl.Entry { return impl.ViewOver(nil, list).Tree },
		func() []impl.Entry { return impl.ViewOver(lowers, mixed).Tree },
	} {
		if len(answer()) == 0 {
			t.Fatal("an answer of nothing shows nothing")
		}
		for at := range answer() {
			got, want := answer(), answer()
			whole := got[at].Chunks[:cap(got[at].Chunks)]
			for i := range whole {
				whole[i] = -1
			}
			got[at], want[at] = impl.Entry{}, impl.Entry{}
			if told(got) != told(want) || told(list) != told(oneListLayer()) {
				t.Fatalf("the Chunks of entry %d are not its own", at)
			}
		}
	}
}

// TestUpperThatStaysIsACopy writes over an answer, to its capacity, and asks upper and the answer of another call.
func TestUpperThatStaysIsACopy(t *testing.T) {
	lowers := roomyLayers(roomyLayer(layerOf(dirAt("/a"), fallingFile("/a/b"))))
	upper := roomyLayer(layerOf(dirAt("/a"), fallingFile("/a/c"), fallingFile("/m")))
	before := wholeMemory([]any{lowers, upper})
	for name, ask := range map[string]func() impl.MountResult{
		"a Reply of WriteOver":     func() impl.MountResult { return impl.WriteOver(lowers, upper, "/a", nil) },
		"a Reply of MakeOver":      func() impl.MountResult { return impl.MakeOver(lowers, upper, "/m") },
		"a Reply of RemoveOver":    func() impl.MountResult { return impl.RemoveOver(lowers, upper, "/a") },
		"a Reply of CopyUp":        func() impl.MountResult { return impl.CopyUp(lowers, upper, "/z") },
		"what upper has already":   func() impl.MountResult { return impl.CopyUp(lowers, upper, "/a/c") },
		"what is written":          func() impl.MountResult { return impl.WriteOver(lowers, upper, "/a/b", []byte("x")) },
		"what is made":             func() impl.MountResult { return impl.MakeOver(lowers, upper, "/a/d") },
		"what is removed":          func() impl.MountResult { return impl.RemoveOver(lowers, upper, "/a/b") },
		"what is removed in upper": func() impl.MountResult { return impl.RemoveOver(lowers, upper, "/m") },
		"what is copied up":        func() impl.MountResult { return impl.CopyUp(lowers, upper, "/a/b") },
	} {
		got := ask()
		want := told(got)
		for _, e := range got.Upper {
			clear(e.Chunks[:cap(e.Chunks)])
		}
		clear(got.Upper[:cap(got.Upper)])
		if wholeMemory([]any{lowers, upper}) != before {
			t.Fatalf("%s: an argument turned with the answer", name)
		}
		if again := told(ask()); again != want {
			t.Errorf("%s, asked again: %s, not %s", name, again, want)
		}
	}
}
