package tests

import (
	"bytes"
	"encoding/binary"
	"encoding/hex"
	"fmt"
	"regexp"
	"slices"
	"strings"
	"testing"

	"loop.example/g00299/impl"
)

var lineForm = regexp.MustCompile(`\A[ -~]{1,60}\z`)

// packByHand writes bytes as a line is packed, whether they are one or not: how many there are, they, and the digest of both.
func packByHand(line string) []byte {
	data := append([]byte{byte(len(line))}, line...)
	return binary.BigEndian.AppendUint32(data, uint32(digestByLibrary(data)))
}

func packAll(lines ...string) []byte {
	var data []byte
	for _, line := range lines {
		data = append(data, packByHand(line)...)
	}
	return data
}

// linesByHand reads from line to line, and tells where that ends.
func linesByHand(data []byte) (lines []string, end int) {
	for end < len(data) {
		rest := data[end:]
		n := 1 + int(rest[0])
		if len(rest) < n+4 || !lineForm.Match(rest[1:n]) || int64(binary.BigEndian.Uint32(rest[n:])) != digestByLibrary(rest[:n]) {
			break
		}
		lines, end = append(lines, string(rest[1:n])), end+n+4
	}
	return lines, end
}

func lineFaultByHand(line string) int64 {
	switch {
	case line == "" || len(line) >= 61:
		return impl.ErrMany
	case !lineForm.MatchString(line):
		return impl.ErrText
	default:
		return impl.OK
	}
}

func readByHand(data []byte) impl.NamedResult {
	if len(data) >= 2001 {
		return impl.NamedResult{Code: impl.ErrMany}
	}
	lines, _ := linesByHand(data)
	return named(lines...)
}

func logFaultByHand(l impl.Log) int64 {
	if len(l.Sure)+len(l.Loose) >= 2001 {
		return impl.ErrMany
	}
	for _, data := range [][]byte{l.Sure, l.Loose} {
		if _, end := linesByHand(data); end < len(data) {
			return impl.ErrText
		}
	}
	return impl.OK
}

func logCode(code int64) impl.LogResult { return impl.LogResult{Code: code} }

// logIs: the answer that has these bytes and no code.
func logIs(sure []byte, loose []byte) impl.LogResult {
	one, _ := linesByHand(sure)
	other, _ := linesByHand(loose)
	return impl.LogResult{Count: int64(len(one) + len(other)), Log: impl.Log{Sure: sure, Loose: loose}}
}

func appendByHand(l impl.Log, line string) impl.LogResult {
	for _, code := range []int64{logFaultByHand(l), lineFaultByHand(line)} {
		if code != impl.OK {
			return logCode(code)
		}
	}
	if len(l.Sure)+len(l.Loose)+len(line)+5 > 2000 {
		return logCode(impl.ErrMany)
	}
	return logIs(l.Sure, slices.Concat(l.Loose, packByHand(line)))
}

func syncByHand(l impl.Log) impl.LogResult {
	if code := logFaultByHand(l); code != impl.OK {
		return logCode(code)
	}
	return logIs(slices.Concat(l.Sure, l.Loose), nil)
}

// crashByHand reads Sure and what is kept as one, as the document says it.
func crashByHand(l impl.Log, kept int64) impl.LogResult {
	if code := logFaultByHand(l); code != impl.OK {
		return logCode(code)
	}
	if kept < 0 || kept > int64(len(l.Loose)) {
		return logCode(impl.ErrRange)
	}
	data := slices.Concat(l.Sure, l.Loose[:kept])
	_, end := linesByHand(data)
	return logIs(data[:end], nil)
}

func sameLogs(a impl.LogResult, b impl.LogResult) bool {
	return a.Code == b.Code && a.Count == b.Count && bytes.Equal(a.Log.Sure, b.Log.Sure) && bytes.Equal(a.Log.Loose, b.Log.Loose)
}

// toldLog writes a log as the bytes that it has, as numbers one by one are hard to read.
func toldLog(l impl.Log) string { return fmt.Sprintf("%q and %q", l.Sure, l.Loose) }

func toldLogResult(r impl.LogResult) string {
	return fmt.Sprintf("code %d, count %d, %s", r.Code, r.Count, toldLog(r.Log))
}

// wantLog also asks what all answers owe: no fault, and a Count of the lines that ReadLines has.
func wantLog(t *testing.T, what func() string, got impl.LogResult, want impl.LogResult) {
	t.Helper()
	if !sameLogs(got, want) {
		t.Fatalf("%s: %s, not %s", what(), toldLogResult(got), toldLogResult(want))
	}
	if code := impl.LogFault(got.Log); code != impl.OK {
		t.Fatalf("%s: the answer %s has the fault %d", what(), toldLogResult(got), code)
	}
	if lines := len(impl.ReadLines(got.Log.Sure).Names) + len(impl.ReadLines(got.Log.Loose).Names); int64(lines) != got.Count {
		t.Fatalf("%s: ReadLines has %d lines of %s", what(), lines, toldLogResult(got))
	}
}

func wantAppended(t *testing.T, l impl.Log, line string) impl.LogResult {
	t.Helper()
	got := impl.AppendLog(l, line)
	wantLog(t, func() string { return fmt.Sprintf("AppendLog of %s and %q", toldLog(l), line) }, got, appendByHand(l, line))
	return got
}

func wantSynced(t *testing.T, l impl.Log) impl.LogResult {
	t.Helper()
	got := impl.SyncLog(l)
	wantLog(t, func() string { return "SyncLog of " + toldLog(l) }, got, syncByHand(l))
	return got
}

func wantCrashed(t *testing.T, l impl.Log, kept int64) impl.LogResult {
	t.Helper()
	got := impl.CrashLog(l, kept)
	wantLog(t, func() string { return fmt.Sprintf("CrashLog of %s and %d", toldLog(l), kept) }, got, crashByHand(l, kept))
	return got
}

// wantRead holds ReadLines against the model, and against lines that are told apart from both.
func wantRead(t *testing.T, what string, data []byte, lines ...string) {
	t.Helper()
	got := impl.ReadLines(data)
	if want := readByHand(data); got.Code != want.Code || !slices.Equal(got.Names, want.Names) {
		t.Fatalf("%s: ReadLines of %q: %d and %q, not %d and %q", what, data, got.Code, got.Names, want.Code, want.Names)
	}
	if got.Code != impl.OK || !slices.Equal(got.Names, lines) {
		t.Fatalf("%s: ReadLines of %q: %d and %q, not %q", what, data, got.Code, got.Names, lines)
	}
}

// lineOf has n bytes, of which each may stand in a line, with another beginning for each number.
func lineOf(n int, number int) string {
	line := make([]byte, n)
	for i := range line {
		line[i] = byte(32 + (number*29+i*7)%95)
	}
	return string(line)
}

// linesOfSize: lines that take just so many bytes when they are packed, of which there are 6 to 65 for each one.
func linesOfSize(size int) []string {
	var lines []string
	for size > 0 {
		take := min(65, size)
		if left := size - take; left > 0 && left < 6 {
			take -= 6
		}
		lines, size = append(lines, lineOf(take-5, len(lines))), size-take
	}
	return lines
}

// oneByteLines: as many of the shortest lines as there may be.
func oneByteLines() []string {
	lines := make([]string, 333)
	for i := range lines {
		lines[i] = lineOf(1, i)
	}
	return lines
}

// lineLists: no line, one, some and as many as there may be; short ones, long ones, of all bytes, and the same ones again.
func lineLists() [][]string {
	lists := [][]string{
		nil, {"a"}, {" "}, {"~"}, {"abc"}, {lineOf(59, 1)}, {lineOf(60, 2)}, {strings.Repeat(" ", 60)}, {strings.Repeat("~", 60)},
		{"a", "a"}, {"a", "b"}, {"b", "a"}, {" ", "  ", " "}, {"prepare a", "write a /f one", "commit a", "collect"},
		{"a", lineOf(60, 3), "b"}, {lineOf(60, 4), "a", lineOf(60, 4)}, slices.Repeat([]string{"again"}, 5), slices.Repeat([]string{lineOf(60, 5)}, 30),
		oneByteLines(), append(oneByteLines()[:332], "abc"), slices.Repeat([]string{"x"}, 333),
	}
	for _, size := range []int{64, 65, 66, 70, 71, 128, 255, 256, 257, 1000, 1994, 1999, 2000} {
		lists = append(lists, linesOfSize(size))
	}
	return lists
}

func logOf(sure []string, loose []string) impl.Log {
	return impl.Log{Sure: packAll(sure...), Loose: packAll(loose...)}
}

// placesIn: where a list may be parted: at each place if it is short, else at its ends and in the middle.
func placesIn(n int) []int {
	if n <= 6 {
		var all []int
		for i := range n + 1 {
			all = append(all, i)
		}
		return all
	}
	return []int{0, 1, n / 2, n - 1, n}
}

// rightLogs: each list of lines, all Sure, all Loose, and some of each.
func rightLogs() []impl.Log {
	logs := []impl.Log{{}, {Sure: []byte{}, Loose: []byte{}}}
	for _, lines := range lineLists() {
		for _, at := range placesIn(len(lines)) {
			logs = append(logs, logOf(lines[:at], lines[at:]))
		}
	}
	return logs
}

func TestLogBounds(t *testing.T) {
	if impl.MaxLine != 60 || impl.MaxLog != 2000 {
		t.Errorf("MaxLine %d, MaxLog %d", impl.MaxLine, impl.MaxLog)
	}
}

func TestLinesAndLogsAreWhatTheySay(t *testing.T) {
	full := 0
	for _, lines := range lineLists() {
		for _, line := range lines {
			if !lineForm.MatchString(line) {
				t.Errorf("%q is no line", line)
			}
		}
		if size := len(packAll(lines...)); size > 2000 {
			t.Errorf("%q are %d bytes", lines, size)
		} else if size == 2000 {
			full++
		}
	}
	if full < 2 || len(packAll(oneByteLines()...)) != 1998 {
		t.Errorf("%d lists have just so many bytes as there may be", full)
	}
	for size := 6; size <= 2001; size++ {
		if got := len(packAll(linesOfSize(size)...)); got != size {
			t.Fatalf("lines of %d bytes are %d", size, got)
		}
	}
}

// TestPackLineKnown: bytes that were worked out elsewhere.
func TestPackLineKnown(t *testing.T) {
	known := []struct {
		line   string
		packed string
	}{
		{" ", "01200b764fc4"},
		{"~", "017e5176bdf6"},
		{"a", "01614c76b617"},
		{"x", "01785376c11c"},
		{"abc", "0361626324d02b76"},
		{"abd", "0361626427d0302f"},
		{"prepare a", "0970726570617265206135b58994"},
		{strings.Repeat("~", 60), "3c" + strings.Repeat("7e", 60) + "4ac9e04b"},
	}
	for _, k := range known {
		if got := impl.PackLine(k.line); got.Code != impl.OK || hex.EncodeToString(got.Bytes) != k.packed {
			t.Errorf("PackLine of %q: %d and %x, not %s", k.line, got.Code, got.Bytes, k.packed)
		}
	}
}

// wantPacked asks a line, or what is none, for its fault, its bytes, and what is read of them.
func wantPacked(t *testing.T, line string) {
	t.Helper()
	code, packed := lineFaultByHand(line), impl.PackLine(line)
	if got := impl.LineFault(line); got != code {
		t.Fatalf("LineFault of %q: %d, not %d", line, got, code)
	}
	if code != impl.OK {
		wantAnswer(t, fmt.Sprintf("PackLine of %q", line), packed, impl.BytesResult{Code: code})
		return
	}
	if packed.Code != impl.OK || !bytes.Equal(packed.Bytes, packByHand(line)) {
		t.Fatalf("PackLine of %q: %d and %x, not %x", line, packed.Code, packed.Bytes, packByHand(line))
	}
	wantRead(t, "a line alone", packed.Bytes, line)
}

func TestLinesByLength(t *testing.T) {
	for _, n := range []int{0, 61, 62, 63, 64, 65, 124, 255, 256, 257, 256 + 60, 512 + 1, 2000, 1<<16 + 1, 1<<16 + 60} {
		wantPacked(t, lineOf(n, n))
		if code := impl.LineFault(lineOf(n, n)); code != impl.ErrMany {
			t.Errorf("LineFault of %d bytes: %d", n, code)
		}
	}
	for n := 1; n <= 60; n++ {
		for number := range 95 {
			wantPacked(t, lineOf(n, number))
		}
	}
}

// TestLinesByteByByte: each byte at each place of a line.
func TestLinesByteByByte(t *testing.T) {
	for _, n := range []int{1, 2, 3, 30, 59, 60} {
		for place := range n {
			for b := range 256 {
				line := []byte(lineOf(n, place))
				line[place] = byte(b)
				wantPacked(t, string(line))
				want := int64(impl.OK)
				if b <= 31 || b >= 127 {
					want = impl.ErrText
				}
				if got := impl.LineFault(string(line)); got != want {
					t.Fatalf("LineFault of %q: %d, not %d", line, got, want)
				}
			}
		}
	}
}

// TestLinesOfRunes: what is one letter to a reader may be more bytes, and none of them is of a line.
func TestLinesOfRunes(t *testing.T) {
	for _, line := range []string{"é", "a€", "\u00a0", "\ufffd", "日本", strings.Repeat("é", 30), strings.Repeat("é", 31), "\xff", "\xc3", "a\x80b", "\t", "a\nb", "\r", "\x00"} {
		wantPacked(t, line)
		if impl.LineFault(line) == impl.OK {
			t.Errorf("%q is a line", line)
		}
	}
}

// TestTwoLinesHaveTwoPacks: a line that is longer by what another one has for its digest does not read like it.
func TestTwoLinesHaveTwoPacks(t *testing.T) {
	seen := map[string]string{}
	for n := 1; n <= 60; n++ {
		for number := range 95 {
			line := lineOf(n, number)
			packed := string(impl.PackLine(line).Bytes)
			if other, there := seen[packed]; there && other != line {
				t.Fatalf("%q and %q are packed the same", line, other)
			}
			seen[packed] = line
		}
	}
}

func TestLinesOneBehindTheOther(t *testing.T) {
	for _, lines := range lineLists() {
		var data []byte
		for _, line := range lines {
			data = append(data, impl.PackLine(line).Bytes...)
		}
		wantRead(t, "all", data, lines...)
		if !bytes.Equal(data, packAll(lines...)) {
			t.Fatalf("%q are packed as %x", lines, data)
		}
	}
}

// TestLinesCutAtEachPlace: just those that are whole are read.
func TestLinesCutAtEachPlace(t *testing.T) {
	for _, lines := range lineLists() {
		data := packAll(lines...)
		whole, end := 0, 0
		for cut := range len(data) + 1 {
			if whole < len(lines) && cut == end+len(lines[whole])+5 {
				whole, end = whole+1, cut
			}
			got := impl.ReadLines(data[:cut])
			if got.Code != impl.OK || !slices.Equal(got.Names, lines[:whole]) {
				t.Fatalf("ReadLines of %q: %d and %q, not %q", data[:cut], got.Code, got.Names, lines[:whole])
			}
		}
		if whole != len(lines) {
			t.Fatalf("the test itself saw %d of %q", whole, lines)
		}
	}
}

// TestDataEndsWithinALine names the places of the cut, of a short line and of a long one.
func TestDataEndsWithinALine(t *testing.T) {
	for _, torn := range []string{"a", "abc", lineOf(60, 1)} {
		for _, ahead := range [][]string{nil, {"one"}, {"one", lineOf(60, 2)}} {
			packed := packByHand(torn)
			for cut := range packed {
				wantRead(t, fmt.Sprint("cut at ", cut), append(packAll(ahead...), packed[:cut]...), ahead...)
			}
			wantRead(t, "not cut", append(packAll(ahead...), packed...), append(slices.Clone(ahead), torn)...)
		}
	}
}

// TestLinesWrongByOneBit: each bit of each byte of a line, with a line ahead of it that is read, and one behind it that is not.
func TestLinesWrongByOneBit(t *testing.T) {
	for _, line := range []string{"a", "abc", " ~ ~", lineOf(30, 1), lineOf(59, 2), lineOf(60, 3)} {
		packed, behind := packByHand(line), packAll("behind", lineOf(60, 4))
		for bit := range len(packed) * 8 {
			wrong := bytes.Clone(packed)
			wrong[bit/8] ^= 1 << (bit % 8)
			wantRead(t, fmt.Sprint("bit ", bit), wrong)
			wantRead(t, fmt.Sprint("bit ", bit), slices.Concat(packAll("ahead"), wrong, behind), "ahead")
		}
		wantRead(t, "no bit", slices.Concat(packAll("ahead"), packed, packAll("behind")), "ahead", line, "behind")
	}
}

// TestLengthsThatAreWrong: each first byte but the right one, with many bytes behind it and with few.
func TestLengthsThatAreWrong(t *testing.T) {
	for _, line := range []string{"a", "abcdef", lineOf(30, 1), lineOf(60, 1)} {
		for length := range 256 {
			if length == len(line) {
				continue
			}
			wrong := packByHand(line)
			wrong[0] = byte(length)
			for _, behind := range [][]byte{nil, {0}, packAll("b"), packAll(slices.Repeat([]string{lineOf(50, 2)}, 10)...), make([]byte, 600)} {
				wantRead(t, fmt.Sprint("length ", length), slices.Concat(wrong, behind))
				wantRead(t, fmt.Sprint("length ", length), slices.Concat(packAll("a", "b"), wrong, behind), "a", "b")
			}
		}
	}
	for length := range 256 {
		wantRead(t, "a length alone", []byte{byte(length)})
		wantRead(t, "a length alone behind a line", append(packAll("abc"), byte(length)), "abc")
	}
}

// notPacked: bytes with a length and a digest that are theirs, but that are no line.
func notPacked() []string {
	texts := []string{"", "\x00", "\x1f", "\x7f", "\x80", "\xff", "\n", "é", "a\nb", "\x1fabc", "abc\x1f", "ab\x7fcd", "\x7f", "abc\x7f"}
	for _, n := range []int{61, 62, 64, 100, 200, 255} {
		texts = append(texts, lineOf(n, n), strings.Repeat("\x1f", n))
	}
	for _, b := range []string{"\x1f", "\x7f"} {
		texts = append(texts, lineOf(59, 1)+b, b+lineOf(59, 1), lineOf(30, 1)+b+lineOf(29, 1))
	}
	return texts
}

func TestBytesThatAreNoLineAreNotRead(t *testing.T) {
	for _, text := range notPacked() {
		wantRead(t, "alone", packByHand(text))
		wantRead(t, "between two", slices.Concat(packAll("one"), packByHand(text), packAll("two")), "one")
		wantAnswer(t, fmt.Sprintf("LogFault with %q", text), impl.LogFault(impl.Log{Sure: packByHand(text)}), int64(impl.ErrText))
	}
}

// TestDigestsOfSomethingElse: of the line without its length, the other way round, and as a digest of other bytes.
func TestDigestsOfSomethingElse(t *testing.T) {
	for _, line := range []string{"a", "abc", lineOf(60, 1)} {
		ahead := append([]byte{byte(len(line))}, line...)
		digest := binary.BigEndian.AppendUint32(nil, uint32(digestByLibrary(ahead)))
		back := slices.Clone(digest)
		slices.Reverse(back)
		alone := binary.BigEndian.AppendUint32(nil, uint32(digestByLibrary([]byte(line))))
		for _, other := range [][]byte{back, alone, {0, 0, 0, 0}, {255, 255, 255, 255}, append(digest[1:4:4], digest[0]), {129, 28, 157, 197}} {
			wantRead(t, "another digest", slices.Concat(ahead, other))
			wantRead(t, "another digest", slices.Concat(ahead, other, digest, packAll("b")))
		}
		wantRead(t, "its digest", slices.Concat(ahead, digest), line)
	}
}

// TestBytesBehindTheLastLine: whatever they are, the lines ahead of them are read.
func TestBytesBehindTheLastLine(t *testing.T) {
	for _, lines := range [][]string{nil, {"a"}, {"a", "b"}, linesOfSize(1000), oneByteLines()[:300]} {
		data := packAll(lines...)
		for b := range 256 {
			for _, n := range []int{1, 2, 4, 5, 6, 100} {
				wantRead(t, fmt.Sprint(n, " of ", b), slices.Concat(data, bytes.Repeat([]byte{byte(b)}, n)), lines...)
			}
		}
		wantRead(t, "many bytes", slices.Concat(data, countedBytes(2000-len(data))), lines...)
	}
}

// TestWholeLineBehindATornOne is not read, wherever the one ahead of it is torn.
func TestWholeLineBehindATornOne(t *testing.T) {
	for _, torn := range []string{"a", "abc", lineOf(20, 1), lineOf(60, 1)} {
		packed := packByHand(torn)
		for cut := 1; cut < len(packed); cut++ {
			for _, whole := range []string{"a", "behind", lineOf(60, 2), torn} {
				data := slices.Concat(packed[:cut], packByHand(whole))
				wantRead(t, fmt.Sprint("cut at ", cut), data)
				wantRead(t, fmt.Sprint("cut at ", cut), slices.Concat(packAll("x", "y"), data), "x", "y")
			}
		}
		for gone := range packed {
			data := slices.Concat(packed[:gone], packed[gone+1:], packAll("behind"))
			lines, _ := linesByHand(data)
			wantRead(t, fmt.Sprint("without byte ", gone), data, lines...)
			if gone > 0 && len(lines) > 0 {
				t.Fatalf("%q is read of %q without byte %d", lines, packed, gone)
			}
		}
	}
}

// lineInALine: a line that has in it all that another line is packed as, and the other one.
func lineInALine(t *testing.T) (string, string) {
	t.Helper()
	for number := range 100000 {
		inner := fmt.Sprintf("an inner line with a number %07d", number)
		if outer := "ahead " + string(packByHand(inner)); lineForm.MatchString(outer) {
			return outer, inner
		}
	}
	t.Fatal("there is none")
	return "", ""
}

// TestLineWithinALine: what stands within a line is none of its own, be the outer one whole or torn.
func TestLineWithinALine(t *testing.T) {
	outer, inner := lineInALine(t)
	packed := packByHand(outer)
	at := bytes.Index(packed, packByHand(inner))
	wantRead(t, "whole", packed, outer)
	wantRead(t, "twice", slices.Concat(packed, packed), outer, outer)
	wantRead(t, "without its last byte", packed[:len(packed)-1])
	wantRead(t, "without its first byte", packed[1:])
	wantRead(t, "from the inner one on", packed[at:], inner)
	wantCrashed(t, impl.Log{Sure: packed, Loose: packed}, int64(len(packed)-1))
	if at < 1 {
		t.Fatal("there is nothing within the line")
	}
}

// TestReadLinesBySize: just so many bytes as there may be, and more, whole and not.
func TestReadLinesBySize(t *testing.T) {
	wantRead(t, "2000 bytes", packAll(linesOfSize(2000)...), linesOfSize(2000)...)
	wantRead(t, "1999 bytes", packAll(linesOfSize(1999)...), linesOfSize(1999)...)
	wantRead(t, "1998 bytes and two more", append(packAll(oneByteLines()...), 1, 65), oneByteLines()...)
	wantRead(t, "2000 zeros", make([]byte, 2000))
	wantRead(t, "2000 other bytes", countedBytes(2000))
	for _, data := range [][]byte{
		packAll(linesOfSize(2001)...), packAll(linesOfSize(2002)...), append(packAll(oneByteLines()...), 1, 65, 0), packAll(slices.Repeat([]string{"a"}, 334)...),
		append(packAll(linesOfSize(2000)...), 0), make([]byte, 2001), countedBytes(2001), make([]byte, 1<<16), make([]byte, 1<<16+6), packAll(linesOfSize(4000)...),
	} {
		wantAnswer(t, fmt.Sprint(len(data), " bytes"), impl.ReadLines(data), impl.NamedResult{Code: impl.ErrMany})
	}
}

// TestReadLinesOfAllFewBytes: each data of few bytes that are those of a length, of a line and of its digest.
func TestReadLinesOfAllFewBytes(t *testing.T) {
	letters := append([]byte{0, 2, 60, 61, 255}, packByHand("a")...)
	data, read := make([]byte, 7), 0
	var ask func(n int)
	ask = func(n int) {
		got, want := impl.ReadLines(data[:n]), readByHand(data[:n])
		if got.Code != want.Code || !slices.Equal(got.Names, want.Names) {
			t.Fatalf("ReadLines of %q: %d and %q, not %q", data[:n], got.Code, got.Names, want.Names)
		}
		if read += len(got.Names); n == len(data) || n > 2 && !bytes.HasPrefix(packByHand("a"), data[:2]) {
			return
		}
		for _, b := range letters {
			data[n] = b
			ask(n + 1)
		}
	}
	ask(0)
	if read != 1+len(letters) {
		t.Errorf("%d lines were read", read)
	}
}

func TestLogsWithoutFault(t *testing.T) {
	for _, l := range rightLogs() {
		if code := impl.LogFault(l); code != impl.OK {
			t.Errorf("LogFault of %s: %d", toldLog(l), code)
		}
	}
}

func TestLogOfNothing(t *testing.T) {
	for _, l := range []impl.Log{{}, {Sure: []byte{}}, {Loose: []byte{}}, {Sure: []byte{}, Loose: []byte{}}} {
		wantAnswer(t, "LogFault", impl.LogFault(l), int64(impl.OK))
		wantAnswer(t, "SyncLog", impl.SyncLog(l), impl.LogResult{})
		wantAnswer(t, "CrashLog", impl.CrashLog(l, 0), impl.LogResult{})
		wantAnswer(t, "AppendLog", impl.AppendLog(l, "a"), impl.LogResult{Count: 1, Log: impl.Log{Loose: packByHand("a")}})
	}
	for _, data := range [][]byte{nil, {}} {
		wantAnswer(t, "ReadLines", impl.ReadLines(data), impl.NamedResult{})
	}
}

// TestAppendToAllLogs: what is appended is the last Loose line, and all else stays.
func TestAppendToAllLogs(t *testing.T) {
	for _, l := range rightLogs() {
		before := impl.SyncLog(l)
		for _, line := range []string{"a", " ", "abc", lineOf(59, 7), lineOf(60, 8), "", lineOf(61, 9), "a\n"} {
			got := wantAppended(t, l, line)
			if got.Code != impl.OK {
				continue
			}
			loose := impl.ReadLines(got.Log.Loose).Names
			if !bytes.Equal(got.Log.Sure, l.Sure) || loose[len(loose)-1] != line || !bytes.HasPrefix(got.Log.Loose, l.Loose) || got.Count != before.Count+1 {
				t.Fatalf("AppendLog of %s and %q: %s", toldLog(l), line, toldLogResult(got))
			}
		}
	}
}

// TestAppendThatJustFits: each length of a line, with so much room, and with one byte less or more, be the log Sure, Loose or both.
func TestAppendThatJustFits(t *testing.T) {
	for n := 1; n <= 60; n++ {
		for _, size := range []int{1994 - n, 1995 - n, 1996 - n} {
			lines := linesOfSize(size)
			for _, at := range placesIn(len(lines)) {
				l := logOf(lines[:at], lines[at:])
				got := wantAppended(t, l, lineOf(n, at))
				if fits := size+n+5 <= 2000; fits != (got.Code == impl.OK) || !fits && got.Code != impl.ErrMany {
					t.Fatalf("%d bytes and a line of %d: code %d", size, n, got.Code)
				}
			}
		}
	}
}

// TestLogThatGrowsUntilItIsFull: line by line, of one length each time, up to the last one that there is room for.
func TestLogThatGrowsUntilItIsFull(t *testing.T) {
	for n := 1; n <= 60; n++ {
		l, lines := impl.Log{}, []string(nil)
		for {
			line := lineOf(n, len(lines))
			got := impl.AppendLog(l, line)
			if got.Code != impl.OK {
				wantAnswer(t, "the last one", got, logCode(impl.ErrMany))
				break
			}
			l, lines = got.Log, append(lines, line)
			if got.Count != int64(len(lines)) {
				t.Fatalf("%d lines of %d bytes: count %d", len(lines), n, got.Count)
			}
		}
		if len(lines) != 2000/(n+5) || !bytes.Equal(l.Loose, packAll(lines...)) || len(l.Sure) > 0 {
			t.Fatalf("%d lines of %d bytes: %s", len(lines), n, toldLog(l))
		}
		wantLog(t, func() string { return "the full log, synced" }, impl.SyncLog(l), logIs(packAll(lines...), nil))
	}
}

// TestSyncOfAllLogs: all is Sure, in its order, and a second time nothing changes.
func TestSyncOfAllLogs(t *testing.T) {
	for _, l := range rightLogs() {
		got := wantSynced(t, l)
		if again := wantSynced(t, got.Log); !sameLogs(again, got) {
			t.Fatalf("%s synced twice: %s", toldLog(l), toldLogResult(again))
		}
		lines := slices.Concat(impl.ReadLines(l.Sure).Names, impl.ReadLines(l.Loose).Names)
		if !slices.Equal(impl.ReadLines(got.Log.Sure).Names, lines) || len(got.Log.Loose) > 0 || got.Count != int64(len(lines)) {
			t.Fatalf("SyncLog of %s: %s", toldLog(l), toldLogResult(got))
		}
	}
}

// wantPromisedOfCrash asks the promise alone: all that was Sure is there, and of what was Loose the first lines, as many as are kept whole.
func wantPromisedOfCrash(t *testing.T, l impl.Log, kept int64, got impl.LogResult) {
	t.Helper()
	sure, loose, left := impl.ReadLines(l.Sure).Names, impl.ReadLines(l.Loose).Names, impl.ReadLines(got.Log.Sure).Names
	if len(left) < len(sure) || !slices.Equal(left[:len(sure)], sure) {
		t.Fatalf("CrashLog of %s and %d: of what was sure there is %q", toldLog(l), kept, left)
	}
	more := left[len(sure):]
	if len(more) > len(loose) || !slices.Equal(more, loose[:len(more)]) {
		t.Fatalf("CrashLog of %s and %d: of what was loose there is %q", toldLog(l), kept, more)
	}
	if int64(len(packAll(more...))) > kept || len(more) < len(loose) && int64(len(packAll(loose[:len(more)+1]...))) <= kept {
		t.Fatalf("CrashLog of %s and %d: %q is left of %q", toldLog(l), kept, more, loose)
	}
	if len(got.Log.Loose) > 0 || !bytes.Equal(got.Log.Sure, packAll(left...)) {
		t.Fatalf("CrashLog of %s and %d: %s", toldLog(l), kept, toldLogResult(got))
	}
}

// TestCrashAtEachPlace: each log, with each number of bytes kept.
func TestCrashAtEachPlace(t *testing.T) {
	for _, l := range rightLogs() {
		step := 1
		if len(l.Loose) > 300 {
			step = 7
		}
		for kept := 0; kept <= len(l.Loose); kept += step {
			wantPromisedOfCrash(t, l, int64(kept), wantCrashed(t, l, int64(kept)))
		}
		wantPromisedOfCrash(t, l, int64(len(l.Loose)), wantCrashed(t, l, int64(len(l.Loose))))
		wantAnswer(t, "one more", impl.CrashLog(l, int64(len(l.Loose)+1)), logCode(impl.ErrRange))
		wantAnswer(t, "one less than none", impl.CrashLog(l, -1), logCode(impl.ErrRange))
	}
}

// TestCrashOfAFullLog: each number of bytes of a log that has no room any more.
func TestCrashOfAFullLog(t *testing.T) {
	lines, left := linesOfSize(2000), 3
	l := logOf(lines[:3], lines[3:])
	for kept := range len(l.Loose) + 1 {
		for left < len(lines) && len(packAll(lines[3:left+1]...)) <= kept {
			left++
		}
		got := impl.CrashLog(l, int64(kept))
		if got.Count != int64(left) || !bytes.Equal(got.Log.Sure, packAll(lines[:left]...)) {
			t.Fatalf("CrashLog with %d kept: %s, not %d lines", kept, toldLogResult(got), left)
		}
	}
	if left != len(lines) {
		t.Fatalf("%d of %d lines are left", left, len(lines))
	}
}

// TestCrashKnown: the numbers of a log of which two lines are Sure and three are Loose.
func TestCrashKnown(t *testing.T) {
	l := logOf([]string{"one", "two"}, []string{"x", lineOf(60, 1), "x"})
	for _, k := range []struct {
		kept  int64
		count int64
	}{
		{0, 2}, {1, 2}, {2, 2}, {5, 2}, {6, 3}, {7, 3}, {66, 3}, {70, 3}, {71, 4}, {72, 4}, {76, 4}, {77, 5},
	} {
		if got := impl.CrashLog(l, k.kept); got.Code != impl.OK || got.Count != k.count {
			t.Errorf("CrashLog with %d kept: %s", k.kept, toldLogResult(got))
		}
	}
	wantAnswer(t, "one more", impl.CrashLog(l, 78), logCode(impl.ErrRange))
}

// TestNothingIsLostBehindASync: whatever was Loose, a crash takes nothing of what was made Sure.
func TestNothingIsLostBehindASync(t *testing.T) {
	for _, l := range rightLogs() {
		synced := impl.SyncLog(l)
		if got := wantCrashed(t, synced.Log, 0); !sameLogs(got, synced) {
			t.Fatalf("%s, synced, then crashed: %s", toldLog(l), toldLogResult(got))
		}
		if got := wantCrashed(t, l, int64(len(l.Loose))); !sameLogs(got, synced) {
			t.Fatalf("%s, crashed with all kept: %s", toldLog(l), toldLogResult(got))
		}
		next := impl.AppendLog(synced.Log, "next")
		for kept := range int64(len(next.Log.Loose)) {
			if got := impl.CrashLog(next.Log, kept); !sameLogs(got, synced) {
				t.Fatalf("%s, synced, and one line behind it torn: %s", toldLog(l), toldLogResult(got))
			}
		}
	}
}

// TestTwoCrashes: behind a crash nothing is Loose, so that a second one takes nothing.
func TestTwoCrashes(t *testing.T) {
	for _, l := range rightLogs() {
		for kept := 0; kept <= len(l.Loose); kept += 5 {
			once := impl.CrashLog(l, int64(kept))
			if twice := wantCrashed(t, once.Log, 0); !sameLogs(once, twice) {
				t.Fatalf("%s, crashed twice: %s", toldLog(l), toldLogResult(twice))
			}
			if synced := impl.SyncLog(once.Log); !sameLogs(once, synced) {
				t.Fatalf("%s, crashed and synced: %s", toldLog(l), toldLogResult(synced))
			}
		}
	}
}

// keptLines: the lines of a log, told apart from its bytes.
type keptLines struct {
	sure  []string
	loose []string
}

func (k *keptLines) crash(kept int) {
	for _, line := range k.loose {
		if kept -= len(line) + 5; kept < 0 {
			break
		}
		k.sure = append(k.sure, line)
	}
	k.loose = nil
}

// TestManyStepsOfLogs goes on from log to log, and holds each against the lines that it should have.
func TestManyStepsOfLogs(t *testing.T) {
	spread := uint32(71)
	next := func(n int) int {
		spread = spread*1664525 + 1013904223
		return int(spread>>8) % n
	}
	full, torn, lost := 0, 0, 0
	for run := range 60 {
		l, kept := impl.Log{}, keptLines{}
		for range 150 {
			var got impl.LogResult
			switch next(12) {
			case 0:
				got = wantSynced(t, l)
				kept.sure, kept.loose = append(kept.sure, kept.loose...), nil
			case 1:
				at, before := next(len(l.Loose)+1), len(kept.loose)+len(kept.sure)
				got = wantCrashed(t, l, int64(at))
				wantPromisedOfCrash(t, l, int64(at), got)
				kept.crash(at)
				lost += before - len(kept.sure)
				if len(packAll(kept.sure...)) < len(l.Sure)+at {
					torn++
				}
			default:
				line := lineOf(1+next(1+run), next(95))
				if got = wantAppended(t, l, line); got.Code != impl.OK {
					full++
					continue
				}
				kept.loose = append(kept.loose, line)
			}
			l = got.Log
			if want := logOf(kept.sure, kept.loose); !bytes.Equal(l.Sure, want.Sure) || !bytes.Equal(l.Loose, want.Loose) || got.Count != int64(len(kept.sure)+len(kept.loose)) {
				t.Fatalf("%s, but there should be %q and %q", toldLogResult(got), kept.sure, kept.loose)
			}
		}
	}
	if full < 100 || torn < 100 || lost < 100 {
		t.Errorf("%d times it was full, %d times a line was torn, %d lines were lost", full, torn, lost)
	}
}
