package tests

import (
	"fmt"
	"math"
	"regexp"
	"slices"
	"strconv"
	"strings"
	"testing"

	"loop.example/g00299/impl"
)

// Expressions that hold all that can be a text; whether the numbers and the paths in it go together is asked beside them.
var (
	fileLine     = regexp.MustCompile(`^f (\S+) (0|[1-9][0-9]?) (-|[0-9a-f]{8}(?:,[0-9a-f]{8})*)$`)
	otherLine    = regexp.MustCompile(`^([dwo]) (\S+)$`)
	manifestLine = regexp.MustCompile(`^image ([a-z]{1,4})((?: [0-9a-f]{8}){1,3})\n$`)
)

func numberOfHex(text string) int64 {
	n, err := strconv.ParseUint(text, 16, 32)
	if err != nil {
		panic(err)
	}
	return int64(n)
}

// entryByHand reads a line apart from the program.
func entryByHand(line string) (impl.Entry, bool) {
	var e impl.Entry
	if m := otherLine.FindStringSubmatch(line); m != nil {
		e = impl.Entry{Path: m[2], Kind: map[string]int64{"d": 2, "w": 3, "o": 4}[m[1]]}
	} else if m := fileLine.FindStringSubmatch(line); m != nil {
		size, _ := strconv.Atoi(m[2])
		e = impl.Entry{Path: m[1], Kind: 1, Size: int64(size)}
		if m[3] != "-" {
			for _, text := range strings.Split(m[3], ",") {
				e.Chunks = append(e.Chunks, numberOfHex(text))
			}
		}
	} else {
		return e, false
	}
	return e, entryFaultByHand(e) == impl.OK
}

func parseEntryByHand(line string) impl.LayerResult {
	if e, right := entryByHand(line); right {
		return impl.LayerResult{Layer: layerOf(e)}
	}
	return impl.LayerResult{Code: impl.ErrText}
}

func parseLayerByHand(text string) impl.LayerResult {
	if len(text) > 600 {
		return impl.LayerResult{Code: impl.ErrMany}
	}
	wrong := impl.LayerResult{Code: impl.ErrText}
	lines := strings.Split(text, "\n")
	if lines[len(lines)-1] != "" {
		return wrong
	}
	var layer []impl.Entry
	for _, line := range lines[:len(lines)-1] {
		e, right := entryByHand(line)
		if !right {
			return wrong
		}
		layer = append(layer, e)
	}
	if layerFaultByHand(layer) != impl.OK {
		return wrong
	}
	return impl.LayerResult{Layer: layer}
}

func parseManifestByHand(text string) impl.ManifestResult {
	m := manifestLine.FindStringSubmatch(text)
	if m == nil {
		return impl.ManifestResult{Code: impl.ErrText}
	}
	answer := impl.ManifestResult{Manifest: impl.Manifest{Name: m[1]}}
	for _, word := range strings.Fields(m[2]) {
		answer.Manifest.Digests = append(answer.Manifest.Digests, numberOfHex(word))
	}
	return answer
}

// lineByHand: the text of an entry, made apart from the program. What a fault of the entry adds is written, too.
func lineByHand(e impl.Entry) string {
	line := fmt.Sprintf("%c %s", " fdwo"[e.Kind], e.Path)
	if e.Kind != 1 && e.Size == 0 && len(e.Chunks) == 0 {
		return line
	}
	var chunks []string
	for _, digest := range e.Chunks {
		chunks = append(chunks, fmt.Sprintf("%08x", digest))
	}
	if len(chunks) == 0 {
		chunks = []string{"-"}
	}
	return fmt.Sprintf("%s %d %s", line, e.Size, strings.Join(chunks, ","))
}

func hasLetter(e impl.Entry) bool {
	return slices.Contains([]int64{1, 2, 3, 4}, e.Kind)
}

func textByHand(layer []impl.Entry) string {
	text := ""
	for _, e := range layer {
		text += lineByHand(e) + "\n"
	}
	return text
}

func manifestByHand(m impl.Manifest) string {
	words := []string{"image", m.Name}
	for _, digest := range m.Digests {
		words = append(words, fmt.Sprintf("%08x", digest))
	}
	return strings.Join(words, " ") + "\n"
}

// textsBeside: all texts that come of one by a byte that is another one, that goes or that comes, and by two neighbours changed.
func textsBeside(text string) []string {
	var texts []string
	for at := range len(text) + 1 {
		for b := range 256 {
			texts = append(texts, text[:at]+string([]byte{byte(b)})+text[at:])
			if at < len(text) {
				texts = append(texts, text[:at]+string([]byte{byte(b)})+text[at+1:])
			}
		}
		if at < len(text) {
			texts = append(texts, text[:at]+text[at+1:], text[:at], text[at:])
		}
		if at+1 < len(text) {
			texts = append(texts, text[:at]+text[at+1:at+2]+text[at:at+1]+text[at+2:])
		}
	}
	return texts
}

// rightEntries: each kind at many paths, files of each size, and digests over all their bounds.
func rightEntries() []impl.Entry {
	var entries []impl.Entry
	for _, path := range rightPaths() {
		entries = append(entries, kindsAt(path)...)
	}
	for _, path := range []string{"/a", "/a/b", "/abcd/efgh/wxyz"} {
		for size := range impl.MaxBytes + 1 {
			entries = append(entries, fileAt(path, string(countedBytes(size))))
		}
	}
	for _, n := range someDigests() {
		entries = append(entries,
			impl.Entry{Path: "/a", Kind: 1, Size: 1, Chunks: []int64{n}}, impl.Entry{Path: "/a", Kind: 1, Size: 16, Chunks: []int64{n, math.MaxUint32 - n}},
			impl.Entry{Path: "/a", Kind: 1, Size: 24, Chunks: []int64{0, n, n}})
	}
	return entries
}

// longestLayer: MaxEntries entries of the longest texts that go together.
func longestLayer() []impl.Entry {
	layer := layerOf(dirAt("/zzzz"), opaqueAt("/zzzz/zzzz"))
	for i := range 10 {
		layer = append(layer, impl.Entry{Path: "/zzzz/zzzz/zzz" + string(rune('a'+i)), Kind: 1, Size: 24, Chunks: []int64{math.MaxUint32, 0, int64(i)}})
	}
	return layer
}

// layersToRead: of none, one and up to MaxEntries entries.
func layersToRead() [][]impl.Entry {
	layers := append(rightLayers(), nil, longestLayer())
	for n := range impl.MaxEntries + 1 {
		layers = append(layers, fullLayer(n))
	}
	return layers
}

func TestEntryTextKnown(t *testing.T) {
	known := []struct {
		e    impl.Entry
		text string
	}{
		{dirAt("/a"), "d /a"},
		{whiteAt("/a/b"), "w /a/b"},
		{opaqueAt("/abcd/efgh/wxyz"), "o /abcd/efgh/wxyz"},
		{fileAt("/a", ""), "f /a 0 -"},
		{impl.Entry{Path: "/a", Kind: 1, Chunks: []int64{}}, "f /a 0 -"},
		{impl.Entry{Path: "/a", Kind: 2, Chunks: []int64{}}, "d /a"},
		{impl.Entry{Path: "/a", Kind: 1, Size: 1, Chunks: []int64{0}}, "f /a 1 00000000"},
		{impl.Entry{Path: "/a/b", Kind: 1, Size: 8, Chunks: []int64{math.MaxUint32}}, "f /a/b 8 ffffffff"},
		{impl.Entry{Path: "/a", Kind: 1, Size: 9, Chunks: []int64{1, math.MaxUint32 - 1}}, "f /a 9 00000001,fffffffe"},
		{impl.Entry{Path: "/zzzz/zzzz/zzzz", Kind: 1, Size: 24, Chunks: []int64{0x9abcdef0, 0x12345678, 16}}, "f /zzzz/zzzz/zzzz 24 9abcdef0,12345678,00000010"},
		{impl.Entry{Path: "/a", Kind: 1, Size: 20, Chunks: []int64{7, 7, 7}}, "f /a 20 00000007,00000007,00000007"},
	}
	for _, k := range known {
		wantAnswer(t, "EntryText of "+told(k.e), impl.EntryText(k.e), impl.TextResult{Text: k.text})
		wantAnswer(t, "ParseEntry of "+k.text, impl.ParseEntry(k.text), impl.LayerResult{Layer: layerOf(k.e)})
	}
	if impl.MaxText != 600 {
		t.Errorf("MaxText %d", impl.MaxText)
	}
}

func TestEntryIsReadBackFromItsText(t *testing.T) {
	for _, e := range rightEntries() {
		text := impl.EntryText(e)
		wantAnswer(t, "EntryText of "+told(e), text, impl.TextResult{Text: lineByHand(e)})
		wantAnswer(t, "ParseEntry of "+text.Text, impl.ParseEntry(text.Text), impl.LayerResult{Layer: layerOf(e)})
	}
}

func TestEntryTextOfFaults(t *testing.T) {
	for _, f := range faultyEntries() {
		wantAnswer(t, "EntryText: "+f.name, impl.EntryText(f.e), impl.TextResult{Code: f.code})
	}
	for _, f := range faultyPaths() {
		for _, e := range kindsAt(f.path) {
			wantAnswer(t, "EntryText of "+shortText(f.path), impl.EntryText(e), impl.TextResult{Code: f.code})
		}
	}
}

// wrongLines: lines that are the text of no entry.
func wrongLines() []string {
	lines := []string{
		"", " ", "  ", "\n", "d", "w", "o", "f", "d ", "f ", "/a", " /a", "-", "d/a", "f/a 0 -",
		"d  /a", "d /a ", " d /a", "  d /a", "d /a  ", "d\t/a", "d /a\t", "d\u00a0/a", "d /a /b", "d /a /a", "d /a\n", "\nd /a", "d /a\r", "d /a\nd /b", "d\n/a",
		"f  /a 0 -", "f /a  0 -", "f /a 0  -", "f /a 0 - ", " f /a 0 -", "f /a0 -", "f /a 0-", "f /a", "f /a ", "f /a 0", "f /a 0 ", "f /a -", "f 0 -", "f  0 -", "f /a\t0 -", "f /a 0 -\n", "f /a 0 -\r", "f /a 0 - -", "f /a 0 - 0",
		"x /a", "a /a", "e /a", "g /a", "p /a", "0 /a", "2 /a", "- /a", "D /a", "W /a", "O /a", "F /a 0 -", "dd /a", "fd /a", "dw /a", "fdwo /a", "dir /a", "f\x00 /a 0 -", "\u0444 /a",
		"d /", "d a", "d /A", "d /a/", "d //a", "d /abcde", "d /a/b/c/d", "w ", "w /a b", "o /1", "f / 0 -", "f /abcde 0 -", "f /a/b/c/d 0 -", "f a 0 -",
		"d /a 0", "d /a -", "d /a 0 -", "w /a 0 -", "o /a 0 -", "d /a 1 00000007", "w /a 1 00000007", "o /a 8 00000007", "d /a 00000007", "w /a ,", "o /a f",
		"f /a 00 -", "f /a 000 -", "f /a 01 00000007", "f /a 08 00000007", "f /a 024 00000001,00000002,00000003", "f /a +0 -", "f /a -0 -", "f /a +1 00000007", "f /a -1 00000007", "f /a -1 -", "f /a  -", "f /a + -", "f /a - -",
		"f /a 0x1 00000007", "f /a 1_0 00000001,00000002", "f /a 1.0 00000007", "f /a 1e0 00000007", "f /a 1a 00000007", "f /a a -", "f /a \u0661 00000007", "f /a 1, 00000007",
		"f /a 25 00000001,00000002,00000003,00000004", "f /a 25 00000001,00000002,00000003", "f /a 100 -", "f /a 4294967296 -", "f /a 4294967297 00000007", "f /a 18446744073709551616 -", "f /a 18446744073709551617 00000007",
		"f /a 9223372036854775807 -", "f /a 9223372036854775808 -", "f /a -9223372036854775808 -", "f /a " + strings.Repeat("9", 1<<12) + " -", "f /a " + strings.Repeat("0", 1<<12) + " -", "f /a 1" + strings.Repeat("0", 1<<12) + " 00000007",
		"f /a 0 00000007", "f /a 0 00000000", "f /a 0 00000001,00000002", "f /a 1 -", "f /a 8 -", "f /a 24 -", "f /a 1 00000001,00000002", "f /a 8 00000001,00000002", "f /a 9 00000001", "f /a 16 00000001", "f /a 16 00000001,00000002,00000003", "f /a 17 00000001,00000002", "f /a 24 00000001,00000002", "f /a 24 00000001,00000002,00000003,00000004",
		"f /a 1 0000007", "f /a 1 000000007", "f /a 1 7", "f /a 1 ", "f /a 1 0000000A", "f /a 1 FFFFFFFF", "f /a 1 fffffffF", "f /a 1 0000000g", "f /a 1 0x000007", "f /a 1 +0000007", "f /a 1 -0000007", "f /a 1 0000_007", "f /a 1 100000000", "f /a 1 0000007 ", "f /a 1  0000007",
		"f /a 9 00000001,0000002", "f /a 9 0000001,00000002", "f /a 9 00000001,000000002", "f /a 9 00000001,0000000B", "f /a 9 0000000B,00000001",
		"f /a 1 ,00000007", "f /a 1 00000007,", "f /a 9 00000001,,00000002", "f /a 9 ,00000001,00000002", "f /a 9 00000001,00000002,", "f /a 9 00000001, 00000002", "f /a 9 00000001 ,00000002", "f /a 9 00000001 00000002", "f /a 9 0000000100000002", "f /a 9 00000001;00000002", "f /a 9 ,", "f /a 0 ,", "f /a 0 -,", "f /a 0 ,-", "f /a 0 -,-", "f /a 0 --", "f /a 9 00000001,-", "f /a 9 -,00000001", "f /a 1 00000007 ,", "f /a 1 00000007 00000007", "f /a 1 00000007 -",
		"f /a 1 " + strings.Repeat("00000007,", 1<<12) + "00000007", "d /" + strings.Repeat("a", 1<<16), strings.Repeat(" ", 1<<16), strings.Repeat("f /a 0 -", 1<<12),
	}
	for _, f := range faultyEntries() {
		if hasLetter(f.e) {
			lines = append(lines, lineByHand(f.e))
		}
	}
	for _, f := range faultyPaths() {
		for _, e := range kindsAt(f.path) {
			lines = append(lines, lineByHand(e))
		}
	}
	return lines
}

func TestParseEntryOfWrongLines(t *testing.T) {
	for _, line := range wrongLines() {
		wantAnswer(t, "ParseEntry of "+shortText(line), impl.ParseEntry(line), impl.LayerResult{Code: impl.ErrText})
		if _, right := entryByHand(line); right {
			t.Errorf("the test itself says that %s is right", shortText(line))
		}
	}
}

// wantLine holds what ParseEntry answers against the expressions above, and asks what the promise says of a text that is read.
func wantLine(t *testing.T, line string) bool {
	t.Helper()
	got := impl.ParseEntry(line)
	if want := parseEntryByHand(line); told(got) != told(want) {
		t.Fatalf("ParseEntry of %q: %s, not %s", line, told(got), told(want))
	}
	if got.Code != impl.OK {
		return false
	}
	if text := impl.EntryText(got.Layer[0]); text.Code != impl.OK || text.Text != line {
		t.Fatalf("%q is read, but its entry has the text %q", line, text.Text)
	}
	return true
}

func TestLinesBesideThoseOfEntries(t *testing.T) {
	read := 0
	for _, line := range []string{
		"d /a", "w /abcd", "o /a/b/c", "f /a 0 -", "f /z 1 00000000", "f /a/b 10 ffffffff,9abcdef0", "f /a 24 00000001,a0000000,0000000f", "f /a 8 00000007", "f /a 9 00000007,00000008",
	} {
		for _, other := range append(textsBeside(line), line) {
			if wantLine(t, other) {
				read++
			}
		}
	}
	if read < 1000 {
		t.Errorf("only %d lines were read", read)
	}
}

func TestLinesOfAllFewWords(t *testing.T) {
	words := []string{"f", "d", "o", "", "/a", "0", "1", "-", "00000007", "00000007,00000008"}
	read := 0
	for _, line := range textsOver(words, " ", 5) {
		if wantLine(t, line) {
			read++
		}
	}
	if read != 4 {
		t.Errorf("%d lines were read, not d, o and two files", read)
	}
}

func TestLinesOfAllSizesAndChunks(t *testing.T) {
	for size := -2; size <= 300; size++ {
		for n := range 6 {
			chunks := strings.TrimSuffix(strings.Repeat("00000007,", n), ",")
			for _, text := range []string{strconv.Itoa(size), "0" + strconv.Itoa(size), "+" + strconv.Itoa(size)} {
				wantLine(t, "f /a "+text+" "+chunks)
				wantLine(t, "f /a "+text+" -"+chunks)
			}
		}
	}
}

func TestPackLayerKnown(t *testing.T) {
	known := []struct {
		layer []impl.Entry
		text  string
	}{
		{nil, ""},
		{[]impl.Entry{}, ""},
		{layerOf(dirAt("/a")), "d /a\n"},
		{layerOf(fileAt("/a", "")), "f /a 0 -\n"},
		{layerOf(opaqueAt("/a"), whiteAt("/b")), "o /a\nw /b\n"},
		{layerOf(dirAt("/a"), impl.Entry{Path: "/a/b", Kind: 1, Size: 9, Chunks: []int64{16, 15}}, whiteAt("/aa")), "d /a\nf /a/b 9 00000010,0000000f\nw /aa\n"},
	}
	for _, k := range known {
		wantAnswer(t, "PackLayer of "+told(k.layer), impl.PackLayer(k.layer), impl.BytesResult{Bytes: []byte(k.text)})
		wantAnswer(t, "ParseLayer of "+k.text, impl.ParseLayer([]byte(k.text)), impl.LayerResult{Layer: k.layer})
	}
	wantAnswer(t, "ParseLayer of nil", impl.ParseLayer(nil), impl.LayerResult{})
}

func TestLayerIsReadBackFromItsText(t *testing.T) {
	for _, layer := range layersToRead() {
		packed := impl.PackLayer(layer)
		if packed.Code != impl.OK || string(packed.Bytes) != textByHand(layer) {
			t.Errorf("PackLayer of %s: %d, %q", told(layer), packed.Code, packed.Bytes)
		}
		got := impl.ParseLayer(packed.Bytes)
		wantAnswer(t, "ParseLayer of "+string(packed.Bytes), got, impl.LayerResult{Layer: layer})
		if !impl.SameLayers(got.Layer, layer) {
			t.Errorf("%s is not read back", told(layer))
		}
	}
	for _, e := range rightEntries() {
		if impl.ParentOf(e.Path).Code == impl.OK {
			continue
		}
		wantAnswer(t, "a layer of "+told(e), impl.ParseLayer(impl.PackLayer(layerOf(e)).Bytes), impl.LayerResult{Layer: layerOf(e)})
	}
}

func TestPackLayerOfFaults(t *testing.T) {
	for _, f := range faultyLayers() {
		wantAnswer(t, "PackLayer: "+f.name, impl.PackLayer(f.layer), impl.BytesResult{Code: f.code})
	}
}

// wrongTexts: texts of up to MaxText bytes that are those of no layer.
func wrongTexts() []string {
	texts := []string{
		"\n", "\n\n", " ", " \n", "\r\n", "\x00", "d /a", "o /a\nw /b", "d /a\n\n", "\nd /a\n", "d /a\n\nd /b\n", "d /a\n\n\n", "\n\nd /a\n", "d /a\r\n", "d /a\n\r", "d /a\n ", "d /a\n \n", " d /a\n", "d /a \n", "d /a\nx", "d /a\nd", "d /a\n\x00", "d /ad /b\n", "d /a d /b\n", "d /a,d /b\n", "d /a\x00d /b\n",
		"d /a\nD /b\n", "d /b\nd /a\n", "d /a\nd /a\n", "d /aa\nd /a\n", "d /a\nw /a\n", "d /a/b\n", "w /a\nd /a/b\n", "f /a 0 -\nd /a/b\n", "d /a/b\nd /a\n", "d /a\nf /a/b/c 0 -\n", "d /abcde\n", "d /a/b/c/d\n", "f /a 1 -\n", "f /a 0 00000007\n", "f /a 0 -\nf /b 00 -\n", "f /a 0 -\nf /b 0  -\n", "f /a\n0 -\n", "f /a 0\n-\n", "d\n/a\n", "image img 00000005\n",
		"d /a\nf /b 25 00000001,00000002,00000003,00000004\n",
	}
	thirteen := ""
	for i := range 13 {
		thirteen += "d /" + string(rune('a'+i)) + "\n"
	}
	return append(texts, thirteen, strings.Repeat("d /a\n", 120), strings.Repeat("d /a\n", 13), strings.Repeat("\n", 600))
}

func TestParseLayerOfWrongTexts(t *testing.T) {
	wrong := impl.LayerResult{Code: impl.ErrText}
	texts := wrongTexts()
	for _, line := range wrongLines() {
		if line != "" && line != "d /a\nd /b" {
			texts = append(texts, line+"\n", "d /\n"+line+"\n", line+"\nd /zz\n")
		}
	}
	for _, f := range faultyLayers() {
		if !slices.ContainsFunc(f.layer, func(e impl.Entry) bool { return !hasLetter(e) }) {
			texts = append(texts, textByHand(f.layer))
		}
	}
	texts = slices.DeleteFunc(texts, func(text string) bool { return len(text) > 600 })
	for _, text := range texts {
		wantAnswer(t, fmt.Sprintf("ParseLayer of %q", text), impl.ParseLayer([]byte(text)), wrong)
		wantAnswer(t, "the test itself", parseLayerByHand(text), wrong)
	}
}

func TestParseLayerByLength(t *testing.T) {
	longest := textByHand(longestLayer())
	if len(longest) > 600 {
		t.Fatalf("the longest layer has %d bytes", len(longest))
	}
	fill := func(text string, n int) []byte { return []byte((text + strings.Repeat(text+"x", 1200))[:n]) }
	for _, text := range []string{longest, "d /a\n", "\n", " ", "", "f /a 24 00000001,00000002,00000003\n"} {
		for n, code := range map[int]int64{599: impl.ErrText, 600: impl.ErrText, 601: impl.ErrMany, 602: impl.ErrMany, 1200: impl.ErrMany} {
			wantAnswer(t, fmt.Sprint(n, " bytes"), impl.ParseLayer(fill(text, n)), impl.LayerResult{Code: code})
		}
	}
	for _, n := range []int{601, 600 + 256, 1 << 16, 1 << 20} {
		wantAnswer(t, fmt.Sprint(n, " bytes"), impl.ParseLayer(make([]byte, n)), impl.LayerResult{Code: impl.ErrMany})
	}
}

// wantLayer holds what ParseLayer answers against a reading apart from the program, and asks what the promise says of a text that is read.
func wantLayer(t *testing.T, text string) bool {
	t.Helper()
	got := impl.ParseLayer([]byte(text))
	if want := parseLayerByHand(text); told(got) != told(want) {
		t.Fatalf("ParseLayer of %q: %s, not %s", text, told(got), told(want))
	}
	if got.Code != impl.OK {
		return false
	}
	if packed := impl.PackLayer(got.Layer); packed.Code != impl.OK || string(packed.Bytes) != text {
		t.Fatalf("%q is read, but its layer has the text %q", text, packed.Bytes)
	}
	return true
}

func TestTextsBesideThoseOfLayers(t *testing.T) {
	read := 0
	for _, layer := range [][]impl.Entry{nil, layerOf(dirAt("/a")), layerOf(dirAt("/b"), fileAt("/b/c", "x"), whiteAt("/c")), layerOf(fileAt("/a", ""), opaqueAt("/c"), fileAt("/c/d", "abcdefghi"))} {
		for _, text := range append(textsBeside(textByHand(layer)), textByHand(layer)) {
			if wantLayer(t, text) {
				read++
			}
		}
	}
	if read < 500 {
		t.Errorf("only %d texts were read", read)
	}
}

func TestTextsOfAllFewLines(t *testing.T) {
	lines := []string{"d /a", "w /a", "d /a/b", "o /b", "f /a/b 0 -", "f /b 1 00000007", "f /c 00 -", ""}
	read := 0
	for _, text := range textsOver(lines, "\n", 4) {
		for _, end := range []string{"", "\n", "\n\n"} {
			if wantLayer(t, text+end) {
				read++
			}
		}
	}
	if read < 15 {
		t.Errorf("only %d texts were read", read)
	}
}

// rightManifests: names at their bounds, 1 to 3 digests, and digests over all their bounds.
func rightManifests() []impl.Manifest {
	var list []impl.Manifest
	for _, name := range []string{"a", "z", "az", "img", "abcd", "zzzz", "aaaa", "f"} {
		for _, digests := range [][]int64{{5}, {0}, {math.MaxUint32}, {5, 5}, {9, 7}, {1, 2, 3}, {math.MaxUint32, 0, math.MaxUint32}, {3, 2, 1}} {
			list = append(list, impl.Manifest{Name: name, Digests: digests})
		}
	}
	for _, n := range someDigests() {
		list = append(list, impl.Manifest{Name: "img", Digests: []int64{n}}, impl.Manifest{Name: "img", Digests: []int64{n, 0, math.MaxUint32 - n}})
	}
	return list
}

func TestPackManifestKnown(t *testing.T) {
	known := []struct {
		m    impl.Manifest
		text string
	}{
		{impl.Manifest{Name: "img", Digests: []int64{5}}, "image img 00000005\n"},
		{impl.Manifest{Name: "a", Digests: []int64{0}}, "image a 00000000\n"},
		{impl.Manifest{Name: "zzzz", Digests: []int64{math.MaxUint32, 1}}, "image zzzz ffffffff 00000001\n"},
		{impl.Manifest{Name: "abcd", Digests: []int64{0x9abcdef0, 0x9abcdef0, 255}}, "image abcd 9abcdef0 9abcdef0 000000ff\n"},
		{impl.Manifest{Name: "nil", Digests: []int64{impl.DigestOf(impl.PackLayer(nil).Bytes)}}, "image nil 811c9dc5\n"},
	}
	for _, k := range known {
		wantAnswer(t, "PackManifest of "+told(k.m), impl.PackManifest(k.m), impl.TextResult{Text: k.text})
		wantAnswer(t, "ParseManifest of "+k.text, impl.ParseManifest(k.text), impl.ManifestResult{Manifest: k.m})
	}
}

func TestManifestIsReadBackFromItsText(t *testing.T) {
	list := rightManifests()
	for n := 1; n <= 3; n++ {
		m := impl.Manifest{Name: "made"}
		for i := range n {
			m.Digests = append(m.Digests, impl.DigestOf(impl.PackLayer(fullLayer(4*i+1)).Bytes))
		}
		list = append(list, m)
	}
	for _, m := range list {
		text := impl.PackManifest(m)
		wantAnswer(t, "PackManifest of "+told(m), text, impl.TextResult{Text: manifestByHand(m)})
		wantAnswer(t, "ParseManifest of "+text.Text, impl.ParseManifest(text.Text), impl.ManifestResult{Manifest: m})
	}
}

// faultyManifest: a manifest with a fault, and the code of the first one in the document's order.
type faultyManifest struct {
	m    impl.Manifest
	code int64
}

func faultyManifests() []faultyManifest {
	var list []faultyManifest
	add := func(code int64, name string, digests ...int64) {
		list = append(list, faultyManifest{impl.Manifest{Name: name, Digests: digests}, code})
	}
	long := strings.Repeat("a", 1<<16)
	for _, name := range []string{"", "`", "{", "A", "Z", "@", "[", "0", "-", "_", ".", "/", " ", "\n", "\x00", "\xff", "\u00e9", "\uff41", "a`", "{a", "abc{", "`bcd", "a b", " a", "a ", "abcD", "abcdE", "abcdefg`", "ab/c", long + "A"} {
		for _, digests := range [][]int64{{5}, nil, {1, 2, 3}, {1, 2, 3, 4}, {-1}, {1 << 32}} {
			add(impl.ErrText, name, digests...)
		}
	}
	for _, name := range []string{"abcde", "zzzzz", "abcdefgh", long, strings.Repeat("z", 256+1)} {
		for _, digests := range [][]int64{{5}, nil, {1, 2, 3}, {1, 2, 3, 4}, {-1}, {1 << 32}} {
			add(impl.ErrMany, name, digests...)
		}
	}
	for _, name := range []string{"a", "img", "abcd"} {
		for _, digests := range [][]int64{nil, {}, {1, 2, 3, 4}, {-1, -1, -1, -1}, {1, 2, 3, 1 << 32}, make([]int64, 256+1), make([]int64, 1<<16)} {
			add(impl.ErrMany, name, digests...)
		}
		for _, n := range noDigests() {
			add(impl.ErrRange, name, n)
			add(impl.ErrRange, name, n, 5)
			add(impl.ErrRange, name, 5, n)
			add(impl.ErrRange, name, 1, n, 3)
			add(impl.ErrRange, name, 0, math.MaxUint32, n)
		}
	}
	return list
}

func TestPackManifestOfFaults(t *testing.T) {
	for _, f := range faultyManifests() {
		name := fmt.Sprintf("PackManifest of %s and %d digests", shortText(f.m.Name), len(f.m.Digests))
		wantAnswer(t, name, impl.PackManifest(f.m), impl.TextResult{Code: f.code})
	}
}

func TestPackManifestByteByByte(t *testing.T) {
	for b := range 256 {
		for _, name := range []string{"%", "%a", "a%", "ab%d", "abc%", "abcd%"} {
			m := impl.Manifest{Name: strings.ReplaceAll(name, "%", string([]byte{byte(b)})), Digests: []int64{5}}
			want := impl.TextResult{Code: impl.ErrText}
			if 'a' <= b && b <= 'z' {
				want = impl.TextResult{Text: manifestByHand(m)}
				if len(m.Name) > 4 {
					want = impl.TextResult{Code: impl.ErrMany}
				}
			}
			wantAnswer(t, fmt.Sprintf("PackManifest of %q", m.Name), impl.PackManifest(m), want)
		}
	}
}

// wrongManifests: texts that are those of no manifest.
func wrongManifests() []string {
	texts := []string{
		"", "\n", " ", " \n", "image", "image\n", "image ", "image \n", "image img", "image img\n", "image img \n", "image  \n", "img 00000005\n", "image 00000005\n", "image  00000005\n",
		"image img 00000005", "image img 00000005\n\n", "\nimage img 00000005\n", "image img 00000005\r\n", "image img\n00000005\n", "image img 00000005 \n", "image img 00000005\n ", "image img 00000005 ",
		" image img 00000005\n", "image  img 00000005\n", "image img  00000005\n", "image img 00000005  00000006\n", "image\timg 00000005\n", "image img\t00000005\n", "image img 00000005\t00000006\n", "imageimg 00000005\n", "image img00000005\n", "image img 0000000500000006\n", "image img 00000005,00000006\n", "image img 00000005, 00000006\n",
		"Image img 00000005\n", "IMAGE img 00000005\n", "imag img 00000005\n", "images img 00000005\n", "mage img 00000005\n", "layer img 00000005\n", "d /a\n", "f /a 0 -\n",
		"image Img 00000005\n", "image im` 00000005\n", "image im{ 00000005\n", "image abcde 00000005\n", "image 1 00000005\n", "image - 00000005\n", "image /a 00000005\n", "image \u00e9 00000005\n", "image a b 00000005\n",
		"image img 0000005\n", "image img 000000005\n", "image img 5\n", "image img -\n", "image img 0000000A\n", "image img FFFFFFFF\n", "image img 0000000g\n", "image img 0x000005\n", "image img +0000005\n", "image img -0000005\n", "image img 100000000\n", "image img 00000005 0000006\n", "image img 00000005 0000000B\n", "image img 00000005 -\n",
		"image img 00000001 00000002 00000003 00000004\n", "image img" + strings.Repeat(" 00000005", 1<<12) + "\n", "image img 00000001 00000002 00000003 \n", "image img 00000005\nimage img 00000005\n", "image img 00000005\nx", "image img 00000005\n\x00", "image img 00000005\x00\n",
		"image " + strings.Repeat("a", 1<<16) + " 00000005\n", strings.Repeat(" ", 1<<16), strings.Repeat("\n", 1<<16), "image img 00000005" + strings.Repeat("\n", 1<<12),
	}
	for _, f := range faultyManifests() {
		if !slices.ContainsFunc(f.m.Digests, func(n int64) bool { return n < 0 }) {
			texts = append(texts, manifestByHand(f.m))
		}
	}
	return texts
}

func TestParseManifestOfWrongTexts(t *testing.T) {
	wrong := impl.ManifestResult{Code: impl.ErrText}
	for _, text := range wrongManifests() {
		wantAnswer(t, "ParseManifest of "+shortText(text), impl.ParseManifest(text), wrong)
		wantAnswer(t, "the test itself, of "+shortText(text), parseManifestByHand(text), wrong)
	}
}

func TestTextsBesideThoseOfManifests(t *testing.T) {
	read := 0
	for _, text := range []string{"image a 00000000\n", "image img ffffffff\n", "image abcd 00000005 9abcdef0\n", "image zz 00000001 0000000a f0000000\n"} {
		for _, other := range append(textsBeside(text), text) {
			got := impl.ParseManifest(other)
			if want := parseManifestByHand(other); told(got) != told(want) {
				t.Fatalf("ParseManifest of %q: %s, not %s", other, told(got), told(want))
			}
			if got.Code != impl.OK {
				continue
			}
			read++
			if again := impl.PackManifest(got.Manifest); again.Code != impl.OK || again.Text != other {
				t.Fatalf("%q is read, but its manifest has the text %q", other, again.Text)
			}
		}
	}
	if read < 1000 {
		t.Errorf("only %d texts were read", read)
	}
}

func TestManifestsOfAllFewWords(t *testing.T) {
	words := []string{"image", "img", "", "00000005", "ffffffff", "0000000F", "abcde"}
	read := 0
	for _, line := range textsOver(words, " ", 6) {
		for _, end := range []string{"", "\n"} {
			got := impl.ParseManifest(line + end)
			if want := parseManifestByHand(line + end); told(got) != told(want) {
				t.Fatalf("ParseManifest of %q: %s, not %s", line+end, told(got), told(want))
			}
			if got.Code == impl.OK {
				read++
			}
		}
	}
	if read != 2+4+8 {
		t.Errorf("%d texts were read", read)
	}
}
