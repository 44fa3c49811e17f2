package tests

import (
	"fmt"
	"testing"

	"loop.example/g00299/impl"
)

// chunksOfMemory: chunks of the files in memoryStacks, but for those of a fallingFile and of oneListLayer.
func chunksOfMemory() []impl.Chunk {
	datas := []string{"b", "c", "x", "abcdefghijklmnopqrstuvwx", "abcdefghi"}
	for i := range 12 {
		datas = append(datas, fmt.Sprint("the bytes of ", i))
	}
	return chunksFor(datas...)
}

func memoryChunks() [][]impl.Chunk {
	all := chunksOfMemory()
	lists := [][]impl.Chunk{nil, {}, all[:len(all)/2], all[len(all)/2:], numberedChunks(40), numberedChunks(41), {all[1], all[0]}, {{Digest: all[0].Digest, Bytes: all[1].Bytes}}}
	for i, list := range lists {
		lists[i] = roomy(list)
	}
	return append(lists, oneListChunks(all))
}

func lazyCalls() []oneCall {
	var calls []oneCall
	lists := memoryChunks()
	for i, layers := range append(memoryStacks(), roomyLayers(roomyLayer(layersToReadLazily()[0]), roomyLayer(layersToReadLazily()[1]))) {
		for _, chunks := range [][]impl.Chunk{roomy(chunksOfMemory()), lists[i%len(lists)]} {
			add := func(name string, call func() any) {
				calls = append(calls, oneCall{name, call, []any{layers, chunks}})
			}
			add("AwayIn", func() any { return impl.AwayIn(layers, chunks) })
			add("IsWhole", func() any { return impl.IsWhole(layers, chunks) })
			for _, path := range memoryPaths() {
				add("ReadOver "+path, func() any { return impl.ReadOver(layers, chunks, path) })
				add("AwayOver "+path, func() any { return impl.AwayOver(layers, chunks, path) })
				for _, at := range placesToRead()[:6] {
					add(fmt.Sprint("ReadPart ", at, " of ", path), func() any { return impl.ReadPart(layers, chunks, path, at) })
				}
			}
		}
	}
	return calls
}

// TestLazyAnswersAreNewMemory also asks that each call comes back: a panic fails the test.
func TestLazyAnswersAreNewMemory(t *testing.T) {
	for _, c := range lazyCalls() {
		askMemory(t, c)
	}
}

func TestLazyAnswersHangOnArgumentsAlone(t *testing.T) {
	askOrder(t, lazyCalls())
}

func TestLazyAnswersAtOnce(t *testing.T) {
	askAtOnce(t, lazyCalls())
}

// filesInMemory: files of one to three chunks that are there, and files of one to three that are away, all with room behind each list.
func filesInMemory() ([][]impl.Entry, []impl.Chunk) {
	there, away := []string{partOne, partOne + partTwo, partThree + partTwo + partOne}, []string{"away one", "away oneaway two", "away twoaway oneaway"}
	var low, high []impl.Entry
	for i, data := range there {
		low = append(low, fileAt(fmt.Sprintf("/a%c", 'a'+i), data))
		high = append(high, fileAt(fmt.Sprintf("/b%c", 'a'+i), away[i]))
	}
	return roomyLayers(roomyLayer(low), roomyLayer(high)), roomy(chunksFor(there...))
}

// lazyAnswers: each answer with a list in it, of each file.
func lazyAnswers(layers [][]impl.Entry, chunks []impl.Chunk) (reads []impl.BytesResult, aways []impl.IntsResult) {
	for i := range 3 {
		there, away := fmt.Sprintf("/a%c", 'a'+i), fmt.Sprintf("/b%c", 'a'+i)
		reads = append(reads, impl.ReadOver(layers, chunks, there))
		for at := range i + 1 {
			reads = append(reads, impl.ReadPart(layers, chunks, there, int64(at)))
		}
		aways = append(aways, impl.AwayOver(layers, chunks, away), impl.AwayIn(layers[1:], nil), impl.AwayIn(layers, chunks))
	}
	return reads, aways
}

func TestLazyAnswersShowSomething(t *testing.T) {
	reads, aways := lazyAnswers(filesInMemory())
	for i, read := range reads {
		if read.Code != impl.OK || len(read.Bytes) == 0 {
			t.Errorf("read %d: %s", i, told(read))
		}
	}
	for i, away := range aways {
		if away.Code != impl.OK || len(away.List) == 0 {
			t.Errorf("away %d: %s", i, told(away))
		}
	}
}

// TestReadsOutliveTheArguments writes over all that was handed in, and asks the answers again.
func TestReadsOutliveTheArguments(t *testing.T) {
	layers, chunks := filesInMemory()
	reads, aways := lazyAnswers(layers, chunks)
	before := told([]any{reads, aways})
	for _, layer := range layers {
		wipe(layer)
	}
	clear(layers)
	for i := range chunks {
		fill(chunks[i].Bytes, 0xee)
		chunks[i] = impl.Chunk{}
	}
	if told([]any{reads, aways}) != before {
		t.Error("an answer turned with its arguments")
	}
}

// TestReadTwiceIsNotTheSameMemory writes over each answer, to its capacity, and asks the arguments, the other answers and another call.
func TestReadTwiceIsNotTheSameMemory(t *testing.T) {
	layers, chunks := filesInMemory()
	for _, chunks := range [][]impl.Chunk{chunks, oneListChunks(chunks)} {
		arguments := wholeMemory([]any{layers, chunks})
		reads, aways := lazyAnswers(layers, chunks)
		again, awaysAgain := lazyAnswers(layers, chunks)
		for i := range reads {
			fill(reads[i].Bytes, 0xee)
			reads[i], again[i] = impl.BytesResult{}, impl.BytesResult{}
			wantAnswer(t, "the other reads", []any{reads, aways}, []any{again, awaysAgain})
		}
		for i := range aways {
			list := aways[i].List
			clear(list[:cap(list)])
			aways[i], awaysAgain[i] = impl.IntsResult{}, impl.IntsResult{}
			wantAnswer(t, "the others that are away", aways, awaysAgain)
		}
		if wholeMemory([]any{layers, chunks}) != arguments {
			t.Fatal("an argument turned with an answer")
		}
	}
}
