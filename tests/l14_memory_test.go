package tests

import (
	"bytes"
	"fmt"
	"slices"
	"strings"
	"testing"

	"loop.example/g00299/impl"
)

// roomyBytes: the same bytes with memory of their own, and room behind them, where an append would write and where a line stands that is not theirs.
func roomyBytes(data []byte) []byte {
	behind := packAll("behind", lineOf(60, 1))
	whole := slices.Concat(data, behind, make([]byte, 70))
	return whole[:len(data)]
}

func roomyLog(l impl.Log) impl.Log {
	return impl.Log{Sure: roomyBytes(l.Sure), Loose: roomyBytes(l.Loose)}
}

// oneListLog: Loose stands right behind Sure in one list, so that an append to Sure would write over it.
func oneListLog(l impl.Log) impl.Log {
	whole := roomyBytes(slices.Concat(l.Sure, l.Loose))
	return impl.Log{Sure: whole[:len(l.Sure)], Loose: whole[len(l.Sure):]}
}

// backwardLog: Sure stands right behind Loose.
func backwardLog(l impl.Log) impl.Log {
	whole := roomyBytes(slices.Concat(l.Loose, l.Sure))
	return impl.Log{Sure: whole[len(l.Loose):], Loose: whole[:len(l.Loose)]}
}

// memoryLogs: logs of every shape, right ones and wrong ones, some of whose lists are pieces of one list, or the same one.
func memoryLogs() []impl.Log {
	var logs []impl.Log
	for i, l := range rightLogs() {
		if i%3 == 0 || len(l.Sure)+len(l.Loose) < 100 {
			logs = append(logs, roomyLog(l), oneListLog(l), backwardLog(l))
		}
	}
	for i, f := range faultyLogs() {
		if i%9 == 0 {
			logs = append(logs, roomyLog(f.log), oneListLog(f.log))
		}
	}
	twice := roomyBytes(packAll("one", "two", "one"))
	return append(logs, impl.Log{}, impl.Log{Sure: twice, Loose: twice}, impl.Log{Sure: twice[:8], Loose: twice}, impl.Log{Sure: twice, Loose: twice[:0]})
}

func memoryLines() []string {
	lines := append(noLines(), "a", "ab", lineOf(30, 1), lineOf(60, 1))
	for i := range lines {
		lines[i] = strings.Clone(lines[i])
	}
	return lines
}

// memoryDatas: what ReadLines may be handed, right and wrong.
func memoryDatas() [][]byte {
	datas := [][]byte{nil, {}, make([]byte, 2000), make([]byte, 2001), countedBytes(5000)}
	for _, lines := range lineLists() {
		data := packAll(lines...)
		datas = append(datas, data, data[:len(data)*2/3])
	}
	datas = append(datas, tornBytes()...)
	for i, data := range datas {
		datas[i] = roomyBytes(data)
	}
	return datas
}

func logCalls() []oneCall {
	var calls []oneCall
	for i, l := range memoryLogs() {
		add := func(name string, call func() any) {
			calls = append(calls, oneCall{fmt.Sprint(name, " of log ", i), call, []any{l}})
		}
		add("LogFault", func() any { return impl.LogFault(l) })
		add("SyncLog", func() any { return impl.SyncLog(l) })
		for _, line := range []string{"a", lineOf(60, 2), ""} {
			add("AppendLog", func() any { return impl.AppendLog(l, line) })
		}
		for _, kept := range []int64{-1, 0, 6, int64(len(l.Loose)) / 2, int64(len(l.Loose)), int64(len(l.Loose)) + 1} {
			add(fmt.Sprint("CrashLog with ", kept), func() any { return impl.CrashLog(l, kept) })
		}
	}
	for i, data := range memoryDatas() {
		calls = append(calls, oneCall{fmt.Sprint("ReadLines of data ", i), func() any { return impl.ReadLines(data) }, []any{data}})
	}
	for _, line := range memoryLines() {
		name := fmt.Sprintf(" of %q", line)
		calls = append(calls, oneCall{"PackLine" + name, func() any { return impl.PackLine(line) }, []any{line}})
		calls = append(calls, oneCall{"LineFault" + name, func() any { return impl.LineFault(line) }, []any{line}})
	}
	return calls
}

// TestLogAnswersAreNewMemory also asks that each call comes back: a panic fails the test.
func TestLogAnswersAreNewMemory(t *testing.T) {
	for _, c := range logCalls() {
		askMemory(t, c)
	}
}

func TestLogAnswersHangOnArgumentsAlone(t *testing.T) {
	askOrder(t, logCalls())
}

func TestLogAnswersAtOnce(t *testing.T) {
	askAtOnce(t, logCalls())
}

// TestCapacityOfLogsIsNotSeen: what stands behind the end of a list is not read, be it lines or none.
func TestCapacityOfLogsIsNotSeen(t *testing.T) {
	for _, l := range rightLogs() {
		clipped := impl.Log{Sure: slices.Clip(bytes.Clone(l.Sure)), Loose: slices.Clip(bytes.Clone(l.Loose))}
		for _, other := range []impl.Log{roomyLog(l), oneListLog(l), backwardLog(l)} {
			kept := int64(len(l.Loose)) * 2 / 3
			for at, same := range []bool{
				impl.LogFault(other) == impl.LogFault(clipped), sameLogs(impl.SyncLog(other), impl.SyncLog(clipped)),
				sameLogs(impl.AppendLog(other, "abc"), impl.AppendLog(clipped, "abc")), sameLogs(impl.CrashLog(other, kept), impl.CrashLog(clipped, kept)),
				slices.Equal(impl.ReadLines(other.Loose).Names, impl.ReadLines(clipped.Loose).Names),
			} {
				if !same {
					t.Fatalf("%s: answer %d hangs on what is behind the lists", toldLog(l), at)
				}
			}
		}
	}
}

// logsToAnswer: logs of which Sure and Loose have something, in lists of their own and in one.
func logsToAnswer() []impl.Log {
	l := logOf([]string{"one", "two", lineOf(60, 1)}, []string{"three", "x", lineOf(59, 2), "four"})
	same := roomyBytes(packAll("one", "two"))
	return []impl.Log{roomyLog(l), oneListLog(l), backwardLog(l), {Sure: same, Loose: same}}
}

// answersOfLog: one answer of each function that answers a log, each with something in it.
func answersOfLog(l impl.Log) []impl.LogResult {
	return []impl.LogResult{impl.AppendLog(l, "next"), impl.SyncLog(l), impl.CrashLog(l, 0), impl.CrashLog(l, 10), impl.CrashLog(l, int64(len(l.Loose)))}
}

func TestLogAnswersShowSomething(t *testing.T) {
	for i, l := range logsToAnswer() {
		for at, got := range answersOfLog(l) {
			if got.Code != impl.OK || got.Count < 2 || len(got.Log.Sure) == 0 || (len(got.Log.Loose) > 0) != (at == 0) {
				t.Errorf("log %d, answer %d: %s", i, at, toldLogResult(got))
			}
		}
	}
}

// TestLogsOutliveTheArguments writes over all that was handed in, and asks the answers again.
func TestLogsOutliveTheArguments(t *testing.T) {
	for i := range logsToAnswer() {
		l := logsToAnswer()[i]
		answers, names := answersOfLog(l), impl.ReadLines(l.Loose)
		before := told(answers) + told(names)
		fill(l.Sure, 0xee)
		fill(l.Loose, 0xee)
		if told(answers)+told(names) != before {
			t.Fatalf("log %d: an answer turned with its arguments", i)
		}
	}
}

// TestListsOfOneLogAreTheirOwn writes over one list of an answer, to its capacity, and asks the other one, the arguments, and another answer.
func TestListsOfOneLogAreTheirOwn(t *testing.T) {
	for i, l := range logsToAnswer() {
		before, want := wholeMemory(l), told(answersOfLog(l))
		for at, got := range answersOfLog(l) {
			loose := bytes.Clone(got.Log.Loose)
			fill(got.Log.Sure, 0xee)
			if !bytes.Equal(got.Log.Loose, loose) || wholeMemory(l) != before || told(answersOfLog(l)) != want {
				t.Fatalf("log %d, answer %d: Sure is not its own", i, at)
			}
			fill(got.Log.Loose, 0xdd)
			if bytes.IndexByte(got.Log.Sure, 0xdd) >= 0 || wholeMemory(l) != before || told(answersOfLog(l)) != want {
				t.Fatalf("log %d, answer %d: Loose is not its own", i, at)
			}
		}
	}
}

// TestPackedLinesAreTheirOwn writes over one answer, and asks again.
func TestPackedLinesAreTheirOwn(t *testing.T) {
	for _, line := range []string{"a", "abc", lineOf(60, 1)} {
		one, two := impl.PackLine(line), impl.PackLine(line)
		fill(one.Bytes, 0xee)
		if !bytes.Equal(two.Bytes, packByHand(line)) || !bytes.Equal(impl.PackLine(line).Bytes, packByHand(line)) {
			t.Fatalf("PackLine of %q hands out the same memory twice", line)
		}
	}
}

// TestNamesOfTwoReadingsAreTheirOwn writes over the names of one answer, to their capacity, and asks again.
func TestNamesOfTwoReadingsAreTheirOwn(t *testing.T) {
	for _, lines := range lineLists() {
		data := packAll(lines...)
		one, two := impl.ReadLines(data), impl.ReadLines(data)
		for i := range one.Names[:cap(one.Names)] {
			one.Names[:cap(one.Names)][i] = "!"
		}
		if !slices.Equal(two.Names, lines) || !slices.Equal(impl.ReadLines(data).Names, lines) {
			t.Fatalf("ReadLines of %q hands out the same memory twice", lines)
		}
	}
}

// TestTextsOfReadingsShareNoMemory asks by addresses. Lines of one byte are left out, as the language keeps one text of each byte for all.
func TestTextsOfReadingsShareNoMemory(t *testing.T) {
	for _, lines := range [][]string{{"ab", "ab", "abc"}, {lineOf(60, 1), lineOf(60, 1)}, linesOfSize(2000)} {
		wantOwnSpans(t, "ReadLines", impl.ReadLines(packAll(lines...)).Names, lines)
	}
}
