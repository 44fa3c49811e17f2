package tests

import (
	"bytes"
	"math"
	"reflect"
	"slices"
	"testing"

	"loop.example/g00299/impl"
)

// byteInputs: nothing, both edges of a chunk and of the most bytes, bytes above 127, and far too many.
func byteInputs() [][]byte {
	inputs := [][]byte{nil, {}, {0}, {127}, {128}, {255}}
	for _, n := range []int{1, 7, 8, 9, 15, 16, 17, 23, 24, 25, 32, 255, 256, 65535, 65536, 65537, 1 << 20} {
		inputs = append(inputs, countedBytes(n), bytes.Repeat([]byte{0xff}, n))
	}
	return inputs
}

func numberInputs() []int64 {
	inputs := append(someDigests(), noDigests()...)
	return append(inputs, math.MinInt16, math.MaxInt16, -16777619, 16777619)
}

func textInputs() []string {
	return []string{
		"", "0", "811c9dc", "811c9dc5", "811c9dc50", "811C9DC5", "ffffffff", "00000000",
		"-0000001", " 0000001", "\xff\xfe\xfd\xfc\xfb\xfa\xf9\xf8", "\x00", "é€", string(countedBytes(1 << 16)),
	}
}

// digestAnswers: what every function of the chapter answers at one argument of its kind.
func digestAnswers(data []byte, n int64, text string) []any {
	return []any{
		impl.DigestOf(data), impl.IsDigest(n), impl.CutChunks(data),
		impl.DigestsOf(data), impl.HexText(n), impl.ParseHex(text),
	}
}

// digestInputs: the arguments of all calls, made once, as some are long.
type digestInputs struct {
	data    [][]byte
	numbers []int64
	texts   []string
}

func newDigestInputs() digestInputs {
	return digestInputs{byteInputs(), numberInputs(), textInputs()}
}

func (in digestInputs) call(i int) []any {
	return digestAnswers(in.data[i%len(in.data)], in.numbers[i%len(in.numbers)], in.texts[i%len(in.texts)])
}

const digestCalls = 100

func (in digestInputs) all() [][]any {
	answers := make([][]any, digestCalls)
	for i := range answers {
		answers[i] = in.call(i)
	}
	return answers
}

// TestDigestFunctionsAnswerEverywhere asks no more than that each call comes back: a panic fails the test.
func TestDigestFunctionsAnswerEverywhere(t *testing.T) {
	in := newDigestInputs()
	for _, data := range in.data {
		digestAnswers(data, 0, "")
	}
	for _, n := range in.numbers {
		digestAnswers(nil, n, "")
	}
	for _, text := range in.texts {
		digestAnswers(nil, 0, text)
	}
}

// TestDigestAnswersHangOnArgumentsAlone asks again in the other order, so that something kept from the call before would show.
func TestDigestAnswersHangOnArgumentsAlone(t *testing.T) {
	in := newDigestInputs()
	first := in.all()
	for i := digestCalls - 1; i >= 0; i-- {
		if again := in.call(i); !reflect.DeepEqual(again, first[i]) {
			t.Fatalf("call %d answers %.200v, then %.200v", i, first[i], again)
		}
	}
}

func TestDigestAnswersAtOnce(t *testing.T) {
	in := newDigestInputs()
	want := in.all()
	heard := make(chan bool)
	const callers = 4
	for range callers {
		go func() { heard <- reflect.DeepEqual(in.all(), want) }()
	}
	for range callers {
		if !<-heard {
			t.Error("an answer hangs on who else calls")
		}
	}
}

// TestDigestArgumentsStay also holds what stands ahead of the argument and behind it, in the same memory.
func TestDigestArgumentsStay(t *testing.T) {
	for _, n := range []int{0, 1, 7, 8, 9, 16, 17, 23, 24, 25, 40, 1000} {
		whole := countedBytes(n + 64)
		before := bytes.Clone(whole)
		digestAnswers(whole[16:16+n], 0, "")
		digestAnswers(whole[16:16+n:16+n], 0, "")
		if !bytes.Equal(whole, before) {
			t.Errorf("%d bytes: the argument or what is beside it was changed", n)
		}
	}
}

// fill writes over all the memory that a list holds, behind its end too.
func fill(list []byte, b byte) {
	whole := list[:cap(list)]
	for i := range whole {
		whole[i] = b
	}
}

func TestPiecesShareNoMemory(t *testing.T) {
	for n := range impl.MaxBytes + 1 {
		whole := countedBytes(n + 16)
		before := bytes.Clone(whole)
		for i := range impl.CutChunks(whole[:n]).Parts {
			parts := impl.CutChunks(whole[:n]).Parts
			fill(parts[i], 0xee)
			if !bytes.Equal(whole, before) {
				t.Fatalf("%d bytes: piece %d shares memory with the argument", n, i)
			}
			parts[i] = before[i*impl.ChunkBytes : min(n, (i+1)*impl.ChunkBytes)]
			if !bytes.Equal(bytes.Join(parts, nil), before[:n]) {
				t.Fatalf("%d bytes: piece %d shares memory with another piece", n, i)
			}
		}
	}
}

func TestPiecesOutliveTheArgument(t *testing.T) {
	for n := range impl.MaxBytes + 1 {
		data := countedBytes(n)
		before := bytes.Clone(data)
		parts, digests := impl.CutChunks(data), impl.DigestsOf(data)
		wantDigests := slices.Clone(digests.List)
		fill(data, 0xee)
		if !bytes.Equal(bytes.Join(parts.Parts, nil), before) || !slices.Equal(digests.List, wantDigests) {
			t.Fatalf("%d bytes: an answer turned with its argument", n)
		}
	}
}

func TestAnswersOfTwoCallsShareNoMemory(t *testing.T) {
	for n := range impl.MaxBytes + 1 {
		data := countedBytes(n)
		one, two := impl.CutChunks(data), impl.CutChunks(data)
		for i := range one.Parts {
			fill(one.Parts[i], 0xee)
			one.Parts[i] = nil
		}
		if !bytes.Equal(bytes.Join(two.Parts, nil), data) || !bytes.Equal(bytes.Join(impl.CutChunks(data).Parts, nil), data) {
			t.Fatalf("%d bytes: CutChunks hands out the same memory twice", n)
		}
		three, four := impl.DigestsOf(data), impl.DigestsOf(data)
		want := slices.Clone(four.List)
		for i := range three.List {
			three.List[i] = -1
		}
		if !slices.Equal(four.List, want) || !slices.Equal(impl.DigestsOf(data).List, want) {
			t.Fatalf("%d bytes: DigestsOf hands out the same memory twice", n)
		}
	}
}
