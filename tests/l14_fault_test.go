package tests

import (
	"fmt"
	"math"
	"slices"
	"strings"
	"testing"

	"loop.example/g00299/impl"
)

// faultyLog: a log with a fault, and the code of the first one in the document's order.
type faultyLog struct {
	name string
	log  impl.Log
	code int64
}

// tooLongLogs: one byte too many and far too many, of Sure, of Loose and of both, be they lines or not.
func tooLongLogs() []faultyLog {
	var list []faultyLog
	add := func(name string, sure []byte, loose []byte) {
		list = append(list, faultyLog{name, impl.Log{Sure: sure, Loose: loose}, impl.ErrMany})
	}
	for _, size := range []int{2001, 2002, 2006, 2065, 3000, 4000, 1 << 16, 1<<16 + 12} {
		lines := linesOfSize(size)
		for _, at := range placesIn(len(lines)) {
			add(fmt.Sprint(size, " bytes parted at ", at), packAll(lines[:at]...), packAll(lines[at:]...))
		}
	}
	full, torn := packAll(linesOfSize(2000)...), packAll(linesOfSize(2000)...)
	torn[1] ^= 1
	add("a full Sure, and one more line", full, packByHand("a"))
	add("a full Loose, and one more line", packByHand("a"), full)
	add("a full Sure, and a byte behind its lines", append(slices.Clone(full), 0), nil)
	add("a full Loose, and a byte behind its lines", nil, append(slices.Clone(full), 0))
	add("a full Sure, and a byte that is no line", full, []byte{0})
	add("a full Loose, and a byte that is no line", []byte{0}, full)
	add("both are full", full, full)
	add("Sure is torn, and both are too long", torn, packByHand("a"))
	add("Loose is torn, and both are too long", packByHand("a"), torn)
	add("zeros of Sure", make([]byte, 2001), nil)
	add("zeros of Loose", nil, make([]byte, 2001))
	add("zeros of both", make([]byte, 1000), make([]byte, 1001))
	add("so many that a smaller number would pass for few", make([]byte, 1<<16), packByHand("a"))
	return list
}

// tornBytes: what is no line, and lines with something behind them that is none.
func tornBytes() [][]byte {
	one, long := packByHand("abc"), packByHand(lineOf(60, 1))
	wrong := slices.Clone(one)
	wrong[len(wrong)-1] ^= 1
	list := [][]byte{
		{0}, {1}, {3}, {60}, {61}, {255}, {0, 0, 0, 0, 0}, one[:len(one)-1], one[1:], long[:len(long)-1], long[:1], wrong,
		slices.Concat(one, one[:1]), slices.Concat(one, one[:4]), slices.Concat(one, one[:7]), slices.Concat(one, []byte{0}), slices.Concat(one, long, long[:64]),
		slices.Concat(wrong, one), slices.Concat(one, wrong, one), slices.Concat(one[:5], one), append([]byte{0}, one...),
	}
	for i, text := range notPacked() {
		if i%4 == 0 {
			list = append(list, packByHand(text), slices.Concat(one, packByHand(text), one))
		}
	}
	return list
}

// tornLogs: bytes behind the lines of Sure, of Loose and of both, also where they would be a line together, and where there is no room any more.
func tornLogs() []faultyLog {
	var list []faultyLog
	add := func(name string, sure []byte, loose []byte) {
		list = append(list, faultyLog{name, impl.Log{Sure: sure, Loose: loose}, impl.ErrText})
	}
	some := packAll("some", "lines")
	for i, torn := range tornBytes() {
		add(fmt.Sprint("Sure is torn bytes ", i), torn, nil)
		add(fmt.Sprint("Loose is torn bytes ", i), nil, torn)
		add(fmt.Sprint("Sure is torn bytes ", i, ", with lines behind"), torn, some)
		add(fmt.Sprint("Loose is torn bytes ", i, ", with lines ahead"), some, torn)
		add(fmt.Sprint("both are torn bytes ", i), torn, torn)
	}
	one := packByHand("parted")
	for at := 1; at < len(one); at++ {
		add(fmt.Sprint("a line parted at ", at), one[:at], one[at:])
		add(fmt.Sprint("a line parted at ", at, ", with others"), slices.Concat(some, one[:at]), slices.Concat(one[at:], some))
	}
	for _, size := range []int{1995, 1999} {
		lines := packAll(linesOfSize(size)...)
		behind := make([]byte, 2000-size)
		add(fmt.Sprint("2000 bytes, Sure with some behind ", size), slices.Concat(lines, behind), nil)
		add(fmt.Sprint("2000 bytes, Loose with some behind ", size), nil, slices.Concat(lines, behind))
		add(fmt.Sprint("2000 bytes, Loose is no line behind ", size), lines, behind)
		add(fmt.Sprint("2000 bytes, Sure is no line ahead of ", size), behind, lines)
	}
	return list
}

func faultyLogs() []faultyLog {
	return append(tooLongLogs(), tornLogs()...)
}

func TestFaultyLogsAreWhatTheySay(t *testing.T) {
	for _, f := range faultyLogs() {
		if code := logFaultByHand(f.log); code != f.code {
			t.Errorf("%s: the model says %d, not %d", f.name, code, f.code)
		}
	}
}

func TestLogFault(t *testing.T) {
	for _, f := range faultyLogs() {
		if code := impl.LogFault(f.log); code != f.code {
			t.Errorf("%s: LogFault of %s: %d, not %d", f.name, toldLog(f.log), code, f.code)
		}
	}
}

// noLines: no bytes and too many, wrong bytes, and both together.
func noLines() []string {
	return []string{
		"", lineOf(61, 1), lineOf(256, 1), lineOf(256+60, 1), lineOf(5000, 1), strings.Repeat("\x1f", 61), lineOf(60, 1) + "\x7f", "\n" + lineOf(60, 1), strings.Repeat("é", 31),
		"\x1f", "\x7f", "a\n", "\na", "a\x00b", "\xff", "é", lineOf(59, 1) + "\x1f", "\x7f" + lineOf(59, 1), strings.Repeat("é", 30),
	}
}

// placesThatAreNone: below the bounds and above them, and those that look like a place when their upper half is cut off.
func placesThatAreNone(l impl.Log) []int64 {
	n := int64(len(l.Loose))
	return []int64{-1, -2, -n - 1, n + 1, n + 2, n + int64(len(l.Sure)) + 1, 2001, 1 << 32, 1<<32 + n, -1 << 32, -1<<32 + n, 1 << 31, 1<<16 + 2000, math.MinInt64, math.MinInt64 + n, math.MaxInt64, math.MaxInt64 - 1}
}

// TestFaultOfTheLogComesFirst hands each faulty log in with what is right beside it, and with what is wrong.
func TestFaultOfTheLogComesFirst(t *testing.T) {
	for _, f := range faultyLogs() {
		want := logCode(f.code)
		wantAnswer(t, f.name+": SyncLog", impl.SyncLog(f.log), want)
		for _, line := range append(noLines(), "a", lineOf(60, 1)) {
			wantAnswer(t, fmt.Sprintf("%s: AppendLog of %q", f.name, line), impl.AppendLog(f.log, line), want)
		}
		for _, kept := range append(placesThatAreNone(f.log), 0, 1, int64(len(f.log.Loose))) {
			wantAnswer(t, fmt.Sprint(f.name, ": CrashLog of ", kept), impl.CrashLog(f.log, kept), want)
		}
	}
}

// TestAppendOfWhatIsNoLine: its code, whether there would be room for it or not.
func TestAppendOfWhatIsNoLine(t *testing.T) {
	for _, l := range rightLogs() {
		for _, line := range noLines() {
			want := int64(impl.ErrText)
			if len(line) < 1 || len(line) > 60 {
				want = impl.ErrMany
			}
			wantAnswer(t, fmt.Sprintf("AppendLog of %d bytes and %q", len(l.Sure)+len(l.Loose), line), impl.AppendLog(l, line), logCode(want))
		}
	}
}

// TestWrongBytesAheadOfNoRoom: a line that is none is told ahead of there being no room for it.
func TestWrongBytesAheadOfNoRoom(t *testing.T) {
	lines := linesOfSize(2000)
	for _, l := range []impl.Log{logOf(lines, nil), logOf(nil, lines), logOf(lines[:5], lines[5:])} {
		wantAnswer(t, "a line", impl.AppendLog(l, "a"), logCode(impl.ErrMany))
		wantAnswer(t, "no bytes", impl.AppendLog(l, ""), logCode(impl.ErrMany))
		wantAnswer(t, "a wrong byte", impl.AppendLog(l, "\x1f"), logCode(impl.ErrText))
		wantAnswer(t, "a wrong byte at the end", impl.AppendLog(l, lineOf(59, 1)+"\x7f"), logCode(impl.ErrText))
	}
}

func TestLineFaultOfTwo(t *testing.T) {
	for _, line := range []string{lineOf(60, 1) + "\x1f", "\x7f" + lineOf(60, 1), strings.Repeat("\x00", 61), strings.Repeat("\xff", 300)} {
		if code := impl.LineFault(line); code != impl.ErrMany {
			t.Errorf("LineFault of %q: %d", line, code)
		}
		wantAnswer(t, "PackLine", impl.PackLine(line), impl.BytesResult{Code: impl.ErrMany})
	}
}

// TestPlacesThatAreNone: a code, and nothing else, also where so many bytes would be there of Sure.
func TestPlacesThatAreNone(t *testing.T) {
	for i, l := range rightLogs() {
		for _, kept := range placesThatAreNone(l) {
			wantAnswer(t, fmt.Sprint("log ", i, ", ", kept, " kept"), impl.CrashLog(l, kept), logCode(impl.ErrRange))
		}
	}
	l := logOf([]string{lineOf(60, 1), lineOf(60, 2)}, []string{"abc"})
	for kept := int64(9); kept <= 200; kept++ {
		wantAnswer(t, fmt.Sprint(kept, " kept"), impl.CrashLog(l, kept), logCode(impl.ErrRange))
	}
}

// TestLogFaultBySize: each size of Sure beside each of some sizes of Loose, at the bound and next to it.
func TestLogFaultBySize(t *testing.T) {
	for size := 6; size <= 1994; size++ {
		sure := packAll(linesOfSize(size)...)
		for _, all := range []int{1999, 2000, 2001, 2002} {
			rest := all - size
			if rest < 6 {
				continue
			}
			want := int64(impl.OK)
			if all > 2000 {
				want = impl.ErrMany
			}
			if got := impl.LogFault(impl.Log{Sure: sure, Loose: packAll(linesOfSize(rest)...)}); got != want {
				t.Fatalf("LogFault of %d and %d bytes: %d", size, rest, got)
			}
		}
	}
}
