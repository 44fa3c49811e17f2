package tests

import (
	"testing"

	"loop.example/g00299/impl"
)

// roomy: the same chunks with room behind the list and behind each of the Bytes, where an append would write.
func roomy(list []impl.Chunk) []impl.Chunk {
	out := make([]impl.Chunk, 0, len(list)+4)
	for _, c := range list {
		data := append(make([]byte, 0, len(c.Bytes)+8), c.Bytes...)
		out = append(out, impl.Chunk{Digest: c.Digest, Bytes: data})
	}
	return out
}

func chunkLists() [][]impl.Chunk {
	lists := [][]impl.Chunk{
		nil, {}, chunksOf("a"), chunksOf(bytesOfZero, bytesOfLargest), chunksOf("a", "abcdefgh", firstOfTwo),
		numberedChunks(39), numberedChunks(impl.MaxChunks),
	}
	for _, f := range faultyChunks() {
		lists = append(lists, f.list)
	}
	for i := range lists {
		lists[i] = roomy(lists[i])
	}
	return lists
}

func chunkDigests() []int64 {
	return append(noDigests(), 0, 1<<32-1, chunkOf("a").Digest, chunkOf("abcdefgh").Digest, chunkOf(firstOfTwo).Digest)
}

func chunkDatas() [][]byte {
	datas := [][]byte{
		nil, {}, []byte("a"), []byte("abcdefgh"), []byte("abcdefghi"), []byte("abcdefghabcdefgha"),
		[]byte(bytesOfZero), []byte(firstOfTwo), []byte(secondOfTwo),
		countedBytes(impl.MaxBytes), countedBytes(impl.MaxBytes + 1), countedBytes(1 << 12),
	}
	for i, data := range datas {
		datas[i] = append(make([]byte, 0, len(data)+16), data...)
	}
	return datas
}

func digestLists() [][]int64 {
	a, long := chunkOf("a").Digest, chunkOf("abcdefgh").Digest
	lists := [][]int64{
		nil, {}, {a}, {a, a}, {a, long, a}, {0, 1<<32 - 1}, {long, 5, 5}, {5, 6, 7}, {7, 6, 7}, {-1}, {a, 1 << 32},
		{a, a, a, a}, {-1, -1, -1, -1, -1},
	}
	for i, list := range lists {
		lists[i] = append(make([]int64, 0, len(list)+4), list...)
	}
	return lists
}

func chunkCalls() []oneCall {
	var calls []oneCall
	add := func(name string, call func() any, arguments ...any) {
		calls = append(calls, oneCall{name, call, arguments})
	}
	digests, datas, asked := chunkDigests(), chunkDatas(), digestLists()
	for _, list := range chunkLists() {
		add("ChunksFault", func() any { return impl.ChunksFault(list) }, list)
		for _, digest := range digests {
			add("ChunkFor", func() any { return impl.ChunkFor(list, digest) }, list)
			add("DropChunk", func() any { return impl.DropChunk(list, digest) }, list)
		}
		for _, c := range list[:min(3, len(list))] {
			add("ChunkFor", func() any { return impl.ChunkFor(list, c.Digest) }, list)
			add("DropChunk", func() any { return impl.DropChunk(list, c.Digest) }, list)
			add("PutChunk", func() any { return impl.PutChunk(list, c.Digest, c.Bytes) }, list)
			add("PutBytes", func() any { return impl.PutBytes(list, c.Bytes) }, list)
			add("JoinChunks", func() any { return impl.JoinChunks(list, []int64{c.Digest}) }, list)
		}
		for _, data := range datas {
			add("PutChunk", func() any { return impl.PutChunk(list, impl.DigestOf(data), data) }, list, data)
			add("PutChunk", func() any { return impl.PutChunk(list, 0, data) }, list, data)
			add("PutChunk", func() any { return impl.PutChunk(list, -1, data) }, list, data)
			add("PutBytes", func() any { return impl.PutBytes(list, data) }, list, data)
		}
		for _, digests := range asked {
			add("JoinChunks", func() any { return impl.JoinChunks(list, digests) }, list, digests)
			add("MissingOf", func() any { return impl.MissingOf(list, digests) }, list, digests)
		}
	}
	return calls
}

func TestChunkAnswersAreNewMemory(t *testing.T) {
	for _, c := range chunkCalls() {
		askMemory(t, c)
	}
}

func TestChunkAnswersHangOnArgumentsAlone(t *testing.T) {
	askOrder(t, chunkCalls())
}

func TestChunkAnswersAtOnce(t *testing.T) {
	askAtOnce(t, chunkCalls())
}

// TestChunksOutliveTheArguments writes over all that was handed in, and asks the answers again.
func TestChunksOutliveTheArguments(t *testing.T) {
	for _, n := range []int{1, 2, 10, 38} {
		list := roomy(numberedChunks(n))
		data := []byte("abcdefgh")
		digests := []int64{list[0].Digest, 5, 6}
		answers := []any{
			impl.PutChunk(list, impl.DigestOf(data), data), impl.PutChunk(list, list[0].Digest, list[0].Bytes), impl.ChunkFor(list, list[0].Digest),
			impl.DropChunk(list, list[0].Digest), impl.PutBytes(list, data), impl.PutBytes(list, nil),
			impl.JoinChunks(list, digests[:1]), impl.MissingOf(list, digests),
		}
		before := told(answers)
		fill(data, 0xee)
		for i := range list {
			fill(list[i].Bytes, 0xee)
			list[i] = impl.Chunk{Digest: -1}
		}
		clear(digests)
		if told(answers) != before {
			t.Fatalf("%d chunks: an answer turned with its arguments", n)
		}
	}
}
