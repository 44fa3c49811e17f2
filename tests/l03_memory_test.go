package tests

import (
	"cmp"
	"slices"
	"strings"
	"testing"
	"unsafe"

	"loop.example/g00299/impl"
)

// pathTexts: texts of memory of their own, so that an answer that shares one's memory shows.
func pathTexts() []string {
	texts := []string{
		"", "/", "//", "a", "abcd", "/a", "/z", "/abcd", "/abcde", "/a/b", "/abcd/wxyz", "/a/b/c", "/abcd/efgh/wxyz", "/a/b/c/d", "/a/", "/a//b",
		"a/./b//../c", "./a", "a/.", "..", "../a", "a/..", "a/../..", ".", "./", "...", "a/.../..", "A", "/A", "/a/B", "\x00", "\xff\xfe", "\u00e9",
		strings.Repeat("/", 40), strings.Repeat("/", 41), strings.Repeat("/", 39) + "a", "a" + strings.Repeat("/", 40), strings.Repeat("a", 40),
		strings.Repeat("/a", 1<<15), strings.Repeat("a", 1<<16), strings.Repeat("../", 1<<14), string(countedBytes(1 << 12)),
	}
	for i, text := range texts {
		texts[i] = strings.Clone(text)
	}
	return texts
}

func pathCalls() []oneCall {
	var calls []oneCall
	add := func(name string, text string, call func() any) {
		calls = append(calls, oneCall{name + " of " + shortText(text), call, []any{text}})
	}
	texts := pathTexts()
	for _, text := range texts {
		add("NormPath", text, func() any { return impl.NormPath(text) })
		add("PathFault", text, func() any { return impl.PathFault(text) })
		add("AboveOf", text, func() any { return impl.AboveOf(text) })
		add("ParentOf", text, func() any { return impl.ParentOf(text) })
		add("LastOf", text, func() any { return impl.LastOf(text) })
		for _, top := range texts {
			add("IsBelow", text, func() any { return impl.IsBelow(text, top) })
		}
	}
	return calls
}

// TestPathAnswersAreNewMemory also asks that each call comes back: a panic fails the test.
func TestPathAnswersAreNewMemory(t *testing.T) {
	for _, c := range pathCalls() {
		askMemory(t, c)
	}
}

func TestPathAnswersHangOnArgumentsAlone(t *testing.T) {
	askOrder(t, pathCalls())
}

func TestPathAnswersAtOnce(t *testing.T) {
	askAtOnce(t, pathCalls())
}

func textSpan(name string, text string) span {
	start := uintptr(unsafe.Pointer(unsafe.StringData(text)))
	return span{start, start + uintptr(len(text)), name}
}

func wantOwnTexts(t *testing.T, argument string, texts ...string) {
	t.Helper()
	spans := []span{textSpan("argument", argument)}
	for _, text := range texts {
		spans = append(spans, textSpan(text, text))
	}
	slices.SortFunc(spans, func(a, b span) int { return cmp.Compare(a.start, b.start) })
	for i := 1; i < len(spans); i++ {
		if a, b := spans[i-1], spans[i]; a.start < b.end && b.start < a.end {
			t.Fatalf("%s: %s and %s share memory", argument, a.name, b.name)
		}
	}
}

// TestTextsOfPathsShareNoMemory asks by addresses, as a text that is cut out of another one reads like a copy.
func TestTextsOfPathsShareNoMemory(t *testing.T) {
	for _, path := range rightPaths() {
		path = strings.Clone(path)
		wantOwnTexts(t, path, impl.NormPath(path).Text)
		wantOwnTexts(t, path, impl.LastOf(path).Text)
		if parent := impl.ParentOf(path); parent.Code == impl.OK {
			wantOwnTexts(t, path, parent.Text)
		}
		wantOwnTexts(t, path, impl.AboveOf(path).Names...)
	}
	for _, text := range []string{"a", "abcd", "a/b", "./a/b", "a/b/..", "/a/", "//a"} {
		text = strings.Clone(text)
		wantOwnTexts(t, text, impl.NormPath(text).Text)
	}
}

// TestNamesOfTwoCallsShareNoMemory writes over one answer, and asks again.
func TestNamesOfTwoCallsShareNoMemory(t *testing.T) {
	for _, path := range rightPaths() {
		one, two := impl.AboveOf(path), impl.AboveOf(path)
		want := told(two)
		whole := one.Names[:cap(one.Names)]
		for i := range whole {
			whole[i] = "!"
		}
		if told(two) != want || told(impl.AboveOf(path)) != want {
			t.Fatalf("AboveOf %s hands out the same memory twice", path)
		}
	}
}
