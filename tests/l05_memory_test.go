package tests

import (
	"strings"
	"testing"

	"loop.example/g00299/impl"
)

// roomyManifest: the same manifest with a name of its own memory, and room behind its Digests, where an append would write.
func roomyManifest(m impl.Manifest) impl.Manifest {
	return impl.Manifest{Name: strings.Clone(m.Name), Digests: append(make([]int64, 0, len(m.Digests)+3), m.Digests...)}
}

// roomyText: the bytes of a text, with bytes behind them that are not its own.
func roomyText(text string) []byte {
	data := append(make([]byte, 0, len(text)+9), text...)
	copy(data[len(text):cap(data)], "\nd /zz\n")
	return data
}

func memoryManifests() []impl.Manifest {
	list := []impl.Manifest{{}, {Name: "img", Digests: []int64{5}}, {Name: "a", Digests: []int64{9, 8}}, {Name: "abcd", Digests: []int64{9, 8, 7}}}
	for _, f := range faultyManifests() {
		list = append(list, f.m)
	}
	for i, m := range list {
		list[i] = roomyManifest(m)
	}
	return list
}

// memoryTexts: texts that are read and that are not, each of memory of its own.
func memoryTexts() []string {
	texts := []string{"d /a", "w /a/b", "f /a 0 -", "f /a 24 00000009,00000008,00000007", "image img 00000005\n", "image abcd 00000009 00000008 00000007\n", "d /a\nf /a/b 9 00000002,00000001\n"}
	texts = append(texts, textByHand(fullLayer(12)), textByHand(longestLayer()), string(countedBytes(1<<12)))
	texts = append(texts, wrongLines()...)
	texts = append(texts, wrongTexts()...)
	texts = append(texts, wrongManifests()...)
	for i, text := range texts {
		texts[i] = strings.Clone(text)
	}
	return texts
}

func textCalls() []oneCall {
	var calls []oneCall
	add := func(name string, call func() any, argument any) {
		calls = append(calls, oneCall{name, call, []any{argument}})
	}
	entries := memoryEntries()
	for _, f := range faultyEntries() {
		entries = append(entries, roomyEntry(f.e))
	}
	for _, e := range entries {
		add("EntryText", func() any { return impl.EntryText(e) }, e)
	}
	for _, layer := range append(memoryLayers(), longestLayer()) {
		add("PackLayer", func() any { return impl.PackLayer(layer) }, layer)
	}
	for _, m := range memoryManifests() {
		add("PackManifest", func() any { return impl.PackManifest(m) }, m)
	}
	for _, text := range memoryTexts() {
		data := roomyText(text)
		add("ParseEntry of "+shortText(text), func() any { return impl.ParseEntry(text) }, text)
		add("ParseLayer of "+shortText(text), func() any { return impl.ParseLayer(data) }, data)
		add("ParseManifest of "+shortText(text), func() any { return impl.ParseManifest(text) }, text)
	}
	return calls
}

// TestTextAnswersAreNewMemory also asks that each call comes back: a panic that is not caught fails the test.
func TestTextAnswersAreNewMemory(t *testing.T) {
	for _, c := range textCalls() {
		askMemory(t, c)
	}
}

func TestTextAnswersHangOnArgumentsAlone(t *testing.T) {
	askOrder(t, textCalls())
}

func TestTextAnswersAtOnce(t *testing.T) {
	askAtOnce(t, textCalls())
}

// TestTextsOfAnswersShareNoMemory asks by addresses, as a path or a name that is cut out of a text reads like a copy.
func TestTextsOfAnswersShareNoMemory(t *testing.T) {
	for _, e := range rightEntries() {
		e = roomyEntry(e)
		line := impl.EntryText(e).Text
		wantOwnTexts(t, e.Path, line)
		wantOwnPaths(t, "ParseEntry of "+line, impl.ParseEntry(line), line)
	}
	for _, layer := range layersToRead() {
		text := textByHand(layer)
		wantOwnPaths(t, "ParseLayer of "+text, impl.ParseLayer([]byte(text)), text)
	}
	for _, m := range rightManifests() {
		m = roomyManifest(m)
		text := impl.PackManifest(m).Text
		wantOwnTexts(t, m.Name, text)
		wantOwnTexts(t, text, impl.ParseManifest(text).Manifest.Name)
	}
}

// TestTextsOutliveTheArguments writes over all that was handed in, and asks the answers again.
func TestTextsOutliveTheArguments(t *testing.T) {
	for n := range 13 {
		layer, m := roomyLayer(fullLayer(n)), roomyManifest(impl.Manifest{Name: "img", Digests: []int64{1, 2, 3}})
		data := roomyText(textByHand(layer))
		answers := []any{impl.PackLayer(layer), impl.ParseLayer(data), impl.PackManifest(m), impl.ParseLayer(data[:0])}
		if n > 0 {
			answers = append(answers, impl.EntryText(layer[n-1]), impl.EntryText(layer[0]))
		}
		before := told(answers)
		fill(data[:cap(data)], 0xee)
		clear(m.Digests[:cap(m.Digests)])
		for i := range layer {
			clear(layer[i].Chunks)
			layer[i] = impl.Entry{}
		}
		if told(answers) != before {
			t.Fatalf("%d entries: an answer turned with its arguments", n)
		}
	}
}

// TestListsOfOneReadingAreTheirOwn writes over the Chunks of each entry that is read, to their capacity, and asks the others.
func TestListsOfOneReadingAreTheirOwn(t *testing.T) {
	text := []byte(textByHand(longestLayer()))
	for at := range longestLayer() {
		got, want := impl.ParseLayer(text).Layer, longestLayer()
		whole := got[at].Chunks[:cap(got[at].Chunks)]
		for i := range whole {
			whole[i] = -1
		}
		got[at], want[at] = impl.Entry{}, impl.Entry{}
		if told(got) != told(want) || told(impl.ParseLayer(text).Layer) != told(longestLayer()) {
			t.Fatalf("the Chunks of entry %d are not its own", at)
		}
	}
}
