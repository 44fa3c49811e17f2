package tests

import (
	"bytes"
	"cmp"
	"math"
	"slices"
	"testing"

	"loop.example/g00299/impl"
)

// Bytes whose digests stand at the ends of the bounds, and two texts of one digest.
const (
	bytesOfZero    = "korcaajh"
	bytesOfOne     = "hvowaegk"
	bytesOfLargest = "etzfbcoy"
	bytesNextBelow = "hbigaoje"
	firstOfTwo     = "glbvs"
	secondOfTwo    = "yacxa"
)

func chunkOf(data string) impl.Chunk {
	return impl.Chunk{Digest: digestByLibrary([]byte(data)), Bytes: []byte(data)}
}

// chunksOf: a list of chunks as it has to be, made apart from the program.
func chunksOf(texts ...string) []impl.Chunk {
	var list []impl.Chunk
	for _, text := range texts {
		list = append(list, chunkOf(text))
	}
	slices.SortFunc(list, func(a, b impl.Chunk) int { return cmp.Compare(a.Digest, b.Digest) })
	return list
}

// numberedTexts: n texts of 1 to ChunkBytes bytes, no two of one digest.
func numberedTexts(n int) []string {
	texts := make([]string, n)
	for i := range texts {
		texts[i] = string(countedBytes(i%impl.ChunkBytes + 1 + i)[i:])
	}
	return texts
}

func numberedChunks(n int) []impl.Chunk {
	return chunksOf(numberedTexts(n)...)
}

func digestsOfTexts(texts ...string) []int64 {
	var list []int64
	for _, text := range texts {
		list = append(list, digestByLibrary([]byte(text)))
	}
	return list
}

func wantChunks(t *testing.T, name string, got impl.ChunksResult, want []impl.Chunk) {
	t.Helper()
	if told(got) != told(impl.ChunksResult{Chunks: want}) {
		t.Errorf("%s: %s, not %s", name, told(got), told(want))
	}
}

func wantAnswer(t *testing.T, name string, got any, want any) {
	t.Helper()
	if told(got) != told(want) {
		t.Errorf("%s: %s, not %s", name, told(got), told(want))
	}
}

func TestTextsOfChunksAreWhatTheySay(t *testing.T) {
	known := []struct {
		text   string
		digest int64
	}{
		{bytesOfZero, 0}, {bytesOfOne, 1}, {bytesNextBelow, math.MaxUint32 - 1}, {bytesOfLargest, math.MaxUint32},
	}
	for _, k := range known {
		if got := digestByLibrary([]byte(k.text)); got != k.digest {
			t.Errorf("%s has the digest %d, not %d", k.text, got, k.digest)
		}
	}
	if chunkOf(firstOfTwo).Digest != chunkOf(secondOfTwo).Digest {
		t.Error("the two texts have two digests")
	}
	list := numberedChunks(60)
	for i, c := range list {
		if len(c.Bytes) < 1 || len(c.Bytes) > 8 || i > 0 && c.Digest <= list[i-1].Digest {
			t.Errorf("chunk %d is %v", i, c)
		}
	}
	if impl.MaxChunks != 40 {
		t.Errorf("MaxChunks is %d", impl.MaxChunks)
	}
}

func TestChunksWithoutFault(t *testing.T) {
	lists := [][]impl.Chunk{
		nil, {}, chunksOf("a"), chunksOf("\x00"), chunksOf("abcdefgh"), chunksOf("\xff\xff\xff\xff\xff\xff\xff\xff"),
		chunksOf(bytesOfZero), chunksOf(bytesOfLargest), chunksOf(bytesOfZero, bytesOfOne, bytesNextBelow, bytesOfLargest),
		chunksOf(firstOfTwo), chunksOf(secondOfTwo), chunksOf("a", "ab", "abc", "abcd", "abcde", "abcdef", "abcdefg", "abcdefgh"),
	}
	for n := range impl.MaxChunks + 1 {
		lists = append(lists, numberedChunks(n))
	}
	for _, list := range lists {
		if code := impl.ChunksFault(list); code != impl.OK {
			t.Errorf("ChunksFault of %s: %d", told(list), code)
		}
	}
}

// faultyList: a list with a fault, and the code of the first one in the document's order.
type faultyList struct {
	name string
	list []impl.Chunk
	code int64
}

func faultyChunks() []faultyList {
	a, b := chunkOf("a"), chunkOf("b")
	if a.Digest > b.Digest {
		a, b = b, a
	}
	wrong := func(digest int64, text string) impl.Chunk { return impl.Chunk{Digest: digest, Bytes: []byte(text)} }
	with := func(list []impl.Chunk, at int, c impl.Chunk) []impl.Chunk {
		list = slices.Clone(list)
		list[at] = c
		return list
	}
	full, over := numberedChunks(impl.MaxChunks), numberedChunks(impl.MaxChunks+1)
	nine := "abcdefghi"
	return []faultyList{
		{"one too many", over, impl.ErrMany},
		{"far too many", numberedChunks(60), impl.ErrMany},
		{"too many, and no digest", with(over, 0, wrong(-1, "a")), impl.ErrMany},
		{"too many, and other bytes", with(over, 0, wrong(a.Digest, "c")), impl.ErrMany},
		{"too many of one digest", slices.Repeat([]impl.Chunk{a}, impl.MaxChunks+1), impl.ErrMany},
		{"a digest below the bounds", []impl.Chunk{wrong(-1, bytesOfLargest)}, impl.ErrRange},
		{"a digest above the bounds", []impl.Chunk{wrong(math.MaxUint32+1, bytesOfZero)}, impl.ErrRange},
		{"the upper half too much", []impl.Chunk{wrong(a.Digest+1<<32, string(a.Bytes))}, impl.ErrRange},
		{"the least number", []impl.Chunk{wrong(math.MinInt64, "a")}, impl.ErrRange},
		{"the largest number", []impl.Chunk{wrong(math.MaxInt64, "a")}, impl.ErrRange},
		{"no digest, behind others", append(slices.Clone(full[:39]), wrong(1<<32, "a")), impl.ErrRange},
		{"no digest, and no bytes", []impl.Chunk{wrong(-1, "")}, impl.ErrRange},
		{"no digest, and too many bytes", []impl.Chunk{wrong(1<<32, nine)}, impl.ErrRange},
		{"no digest, and falls", []impl.Chunk{a, wrong(-1, "b")}, impl.ErrRange},
		{"no bytes", []impl.Chunk{wrong(a.Digest, "")}, impl.ErrMany},
		{"no bytes, and their digest", []impl.Chunk{chunkOf("")}, impl.ErrMany},
		{"nil for bytes", []impl.Chunk{{Digest: chunkOf("").Digest}}, impl.ErrMany},
		{"the zero chunk", []impl.Chunk{{}}, impl.ErrMany},
		{"one byte too many", []impl.Chunk{chunkOf(nine)}, impl.ErrMany},
		{"far too many bytes", []impl.Chunk{chunkOf(string(countedBytes(1000)))}, impl.ErrMany},
		{"256 bytes too many", []impl.Chunk{chunkOf(string(countedBytes(256 + 4)))}, impl.ErrMany},
		{"too many bytes of another digest", []impl.Chunk{wrong(a.Digest, nine)}, impl.ErrMany},
		{"no bytes, and falls", []impl.Chunk{b, wrong(a.Digest, "")}, impl.ErrMany},
		{"other bytes", []impl.Chunk{wrong(a.Digest, "c")}, impl.ErrSum},
		{"the digest next to theirs", []impl.Chunk{wrong(a.Digest+1, string(a.Bytes))}, impl.ErrSum},
		{"the digest 0 of other bytes", []impl.Chunk{wrong(0, "a")}, impl.ErrSum},
		{"the largest digest of other bytes", []impl.Chunk{wrong(math.MaxUint32, "a")}, impl.ErrSum},
		{"a byte more than the digest is of", []impl.Chunk{wrong(a.Digest, string(a.Bytes)+"\x00")}, impl.ErrSum},
		{"other bytes at the end", with(full, 39, wrong(full[39].Digest, "c")), impl.ErrSum},
		{"other bytes, and falls", []impl.Chunk{b, wrong(a.Digest, string(b.Bytes))}, impl.ErrSum},
		{"falls", []impl.Chunk{b, a}, impl.ErrForm},
		{"one twice", []impl.Chunk{a, a}, impl.ErrForm},
		{"one digest of two bytes", []impl.Chunk{chunkOf(firstOfTwo), chunkOf(secondOfTwo)}, impl.ErrForm},
		{"falls from the largest to 0", []impl.Chunk{chunkOf(bytesOfLargest), chunkOf(bytesOfZero)}, impl.ErrForm},
		{"falls at the end", append(slices.Clone(full[1:]), full[0]), impl.ErrForm},
		{"falls, then no digest", []impl.Chunk{b, a, wrong(-1, "a")}, impl.ErrForm},
		{"other bytes, then no digest", []impl.Chunk{wrong(0, "a"), wrong(-1, "a")}, impl.ErrSum},
		{"no bytes, then no digest", []impl.Chunk{wrong(0, ""), wrong(-1, "a")}, impl.ErrMany},
		{"falls, then other bytes", []impl.Chunk{b, a, wrong(math.MaxUint32, "a")}, impl.ErrForm},
	}
}

func TestChunksFault(t *testing.T) {
	for _, f := range faultyChunks() {
		if code := impl.ChunksFault(f.list); code != f.code {
			t.Errorf("%s: %d, not %d", f.name, code, f.code)
		}
	}
}

// TestFaultOfTheListComesFirst hands each list to each function, with other arguments that are right and that are wrong.
func TestFaultOfTheListComesFirst(t *testing.T) {
	digests := []int64{chunkOf("a").Digest, 0, -1, 1 << 32}
	datas := [][]byte{[]byte("a"), nil, []byte("abcdefghi"), countedBytes(impl.MaxBytes), countedBytes(impl.MaxBytes + 1)}
	lists := [][]int64{nil, {chunkOf("a").Digest}, {0, 0}, {-1}, {0, 0, 0, 0}, {-1, -1, -1, -1}}
	for _, f := range faultyChunks() {
		chunks, data, ints := impl.ChunksResult{Code: f.code}, impl.BytesResult{Code: f.code}, impl.IntsResult{Code: f.code}
		for _, digest := range digests {
			for _, bytes := range datas {
				wantAnswer(t, "PutChunk: "+f.name, impl.PutChunk(f.list, digest, bytes), chunks)
				wantAnswer(t, "PutBytes: "+f.name, impl.PutBytes(f.list, bytes), chunks)
			}
			wantAnswer(t, "ChunkFor: "+f.name, impl.ChunkFor(f.list, digest), data)
			wantAnswer(t, "DropChunk: "+f.name, impl.DropChunk(f.list, digest), chunks)
		}
		for _, list := range lists {
			wantAnswer(t, "JoinChunks: "+f.name, impl.JoinChunks(f.list, list), data)
			wantAnswer(t, "MissingOf: "+f.name, impl.MissingOf(f.list, list), ints)
		}
	}
}

func TestWhatIsPutIsThere(t *testing.T) {
	for _, n := range []int{0, 1, 2, 10, 38, 39} {
		texts := numberedTexts(n)
		for _, text := range []string{"a", "\x00", "abcdefgh", bytesOfZero, bytesOfOne, bytesNextBelow, bytesOfLargest, firstOfTwo} {
			put := impl.PutChunk(chunksOf(texts...), chunkOf(text).Digest, []byte(text))
			wantChunks(t, "PutChunk", put, chunksOf(append(slices.Clone(texts), text)...))
			if code := impl.ChunksFault(put.Chunks); code != impl.OK {
				t.Errorf("what is put has the fault %d", code)
			}
			for _, c := range chunksOf(append(slices.Clone(texts), text)...) {
				wantAnswer(t, "ChunkFor", impl.ChunkFor(put.Chunks, c.Digest), impl.BytesResult{Bytes: c.Bytes})
			}
		}
	}
}

func TestPutChunkOfWrongBytes(t *testing.T) {
	a, nine := chunkOf("a").Digest, []byte("abcdefghi")
	wrong := []struct {
		digest int64
		data   []byte
		code   int64
	}{
		{-1, []byte(bytesOfLargest), impl.ErrRange},
		{1 << 32, []byte(bytesOfZero), impl.ErrRange},
		{a + 1<<32, []byte("a"), impl.ErrRange},
		{a - 1<<32, []byte("a"), impl.ErrRange},
		{math.MinInt64, []byte("a"), impl.ErrRange},
		{math.MaxInt64, nil, impl.ErrRange},
		{-1, nil, impl.ErrRange},
		{1 << 32, nine, impl.ErrRange},
		{0, nil, impl.ErrMany},
		{digestByLibrary(nil), nil, impl.ErrMany},
		{digestByLibrary(nil), []byte{}, impl.ErrMany},
		{digestByLibrary(nine), nine, impl.ErrMany},
		{a, nine, impl.ErrMany},
		{a, countedBytes(1 << 16), impl.ErrMany},
		{a, []byte("b"), impl.ErrSum},
		{a, []byte("aa"), impl.ErrSum},
		{a, []byte("a\x00"), impl.ErrSum},
		{a + 1, []byte("a"), impl.ErrSum},
		{0, []byte("a"), impl.ErrSum},
		{math.MaxUint32, []byte("a"), impl.ErrSum},
		{0, []byte(bytesOfOne), impl.ErrSum},
	}
	lists := [][]impl.Chunk{nil, chunksOf("a"), chunksOf("b", bytesOfZero), numberedChunks(39), numberedChunks(impl.MaxChunks)}
	for _, w := range wrong {
		for _, list := range lists {
			wantAnswer(t, "PutChunk", impl.PutChunk(list, w.digest, w.data), impl.ChunksResult{Code: w.code})
		}
	}
}

func TestPutChunkThatIsThere(t *testing.T) {
	for _, n := range []int{1, 2, 39, impl.MaxChunks} {
		list := numberedChunks(n)
		for _, c := range list {
			wantChunks(t, "PutChunk again", impl.PutChunk(list, c.Digest, slices.Clone(c.Bytes)), list)
		}
	}
	list := chunksOf("a", firstOfTwo)
	wantChunks(t, "PutChunk of other bytes of the digest", impl.PutChunk(list, chunkOf(secondOfTwo).Digest, []byte(secondOfTwo)), list)
}

func TestPutChunkWhereThereAreMaxChunks(t *testing.T) {
	full := impl.ChunksResult{Code: impl.ErrMany}
	for _, text := range []string{"a", bytesOfZero, bytesOfLargest, "abcdefgh"} {
		wantAnswer(t, "PutChunk", impl.PutChunk(numberedChunks(impl.MaxChunks), chunkOf(text).Digest, []byte(text)), full)
	}
	texts := numberedTexts(impl.MaxChunks)
	last := texts[len(texts)-1]
	put := impl.PutChunk(chunksOf(texts[:len(texts)-1]...), chunkOf(last).Digest, []byte(last))
	wantChunks(t, "the last PutChunk", put, chunksOf(texts...))
}

func TestNothingElseIsThere(t *testing.T) {
	digests := append(noDigests(), 0, 1, math.MaxUint32-1, math.MaxUint32, chunkOf("a").Digest, chunkOf("").Digest)
	for _, n := range []int{0, 1, 2, 39, impl.MaxChunks} {
		list := numberedChunks(n)
		asked := slices.Clone(digests)
		for _, c := range list {
			asked = append(asked, c.Digest-1, c.Digest+1, c.Digest+1<<32, c.Digest-1<<32, -c.Digest)
		}
		for _, digest := range asked {
			wantAnswer(t, "ChunkFor", impl.ChunkFor(list, digest), impl.BytesResult{Code: impl.ErrNone})
			wantAnswer(t, "DropChunk", impl.DropChunk(list, digest), impl.ChunksResult{Code: impl.ErrNone})
		}
	}
}

func TestWhatIsDroppedIsGone(t *testing.T) {
	for _, n := range []int{1, 2, 3, 39, impl.MaxChunks} {
		list := numberedChunks(n)
		for i, c := range list {
			left := slices.Delete(slices.Clone(list), i, i+1)
			gone := impl.DropChunk(list, c.Digest)
			wantChunks(t, "DropChunk", gone, left)
			wantAnswer(t, "ChunkFor", impl.ChunkFor(gone.Chunks, c.Digest), impl.BytesResult{Code: impl.ErrNone})
			wantChunks(t, "PutChunk behind it", impl.PutChunk(gone.Chunks, c.Digest, c.Bytes), list)
		}
	}
	ends := chunksOf(bytesOfZero, bytesOfOne, bytesNextBelow, bytesOfLargest)
	wantChunks(t, "DropChunk of 0", impl.DropChunk(ends, 0), ends[1:])
	wantChunks(t, "DropChunk of the largest", impl.DropChunk(ends, math.MaxUint32), ends[:3])
}

func TestBytesThatWerePutAreJoined(t *testing.T) {
	for n := range impl.MaxBytes + 1 {
		for _, data := range [][]byte{countedBytes(n), make([]byte, n), bytes.Repeat([]byte{0xff}, n)} {
			for _, texts := range [][]string{nil, {"a"}, {firstOfTwo, bytesOfZero, bytesOfLargest}, numberedTexts(30)} {
				pieces := slices.Clone(texts)
				for piece := range slices.Chunk(data, 8) {
					if !slices.Contains(pieces, string(piece)) {
						pieces = append(pieces, string(piece))
					}
				}
				put := impl.PutBytes(chunksOf(texts...), data)
				wantChunks(t, "PutBytes", put, chunksOf(pieces...))
				digests := impl.DigestsOf(data).List
				wantAnswer(t, "JoinChunks", impl.JoinChunks(put.Chunks, digests), impl.BytesResult{Bytes: data})
				wantAnswer(t, "MissingOf", impl.MissingOf(put.Chunks, digests), impl.IntsResult{})
			}
		}
	}
}

func TestPutBytesOfNoBytesAndTooMany(t *testing.T) {
	for _, n := range []int{0, 1, 39, impl.MaxChunks} {
		list := numberedChunks(n)
		wantChunks(t, "PutBytes of nil", impl.PutBytes(list, nil), list)
		wantChunks(t, "PutBytes of no bytes", impl.PutBytes(list, []byte{}), list)
		for _, many := range []int{impl.MaxBytes + 1, impl.MaxBytes + 8, 256, 1 << 16} {
			wantAnswer(t, "PutBytes of too many", impl.PutBytes(list, countedBytes(many)), impl.ChunksResult{Code: impl.ErrMany})
			wantAnswer(t, "PutBytes of too many", impl.PutBytes(list, make([]byte, many)), impl.ChunksResult{Code: impl.ErrMany})
		}
	}
}

func TestPutBytesOfPiecesAlike(t *testing.T) {
	one := "abcdefgh"
	for _, data := range []string{one + one, one + one + one, one + "x" + one[1:] + one} {
		put := impl.PutBytes(nil, []byte(data))
		pieces := []string{one}
		if data[8] == 'x' {
			pieces = append(pieces, "x"+one[1:])
		}
		wantChunks(t, "PutBytes of "+data, put, chunksOf(pieces...))
		wantAnswer(t, "JoinChunks", impl.JoinChunks(put.Chunks, impl.DigestsOf([]byte(data)).List), impl.BytesResult{Bytes: []byte(data)})
	}
	texts := numberedTexts(39)
	full := chunksOf(append(texts, one)...)
	wantChunks(t, "a piece twice in the last place", impl.PutBytes(chunksOf(texts...), []byte(one+one+one)), full)
	wantChunks(t, "a piece that is there, where there is no place", impl.PutBytes(full, []byte(one+one+one)), full)
}

func TestPutBytesWhereThereIsNoPlace(t *testing.T) {
	data := []byte("abcdefghijklmnopqrstuvwx")
	for n, fits := range map[int]bool{37: true, 38: false, 39: false, 40: false} {
		put := impl.PutBytes(numberedChunks(n), data)
		if fits {
			wantChunks(t, "PutBytes", put, chunksOf(append(numberedTexts(n), "abcdefgh", "ijklmnop", "qrstuvwx")...))
		} else {
			wantAnswer(t, "PutBytes", put, impl.ChunksResult{Code: impl.ErrMany})
		}
	}
	there := chunksOf(append(numberedTexts(38), "ijklmnop", "qrstuvwx")...)
	wantAnswer(t, "PutBytes with the first piece away", impl.PutBytes(there, data), impl.ChunksResult{Code: impl.ErrMany})
	wantChunks(t, "PutBytes of the pieces that are there", impl.PutBytes(there, data[8:]), there)
}

func TestPutBytesOfTheSameDigest(t *testing.T) {
	list := chunksOf(firstOfTwo)
	wantChunks(t, "PutBytes of other bytes of the digest", impl.PutBytes(list, []byte(secondOfTwo)), list)
}

func TestDigestsThatAreAsked(t *testing.T) {
	list := chunksOf("a", "bc", "abcdefgh", bytesOfZero, bytesOfLargest)
	a, bc, long := chunkOf("a").Digest, chunkOf("bc").Digest, chunkOf("abcdefgh").Digest
	x, y, z := chunkOf("x").Digest, chunkOf("y").Digest, chunkOf("z").Digest
	known := []struct {
		digests []int64
		code    int64
		joined  string
		missing []int64
	}{
		{nil, impl.OK, "", nil},
		{[]int64{}, impl.OK, "", nil},
		{[]int64{a}, impl.OK, "a", nil},
		{[]int64{bc, a}, impl.OK, "bca", nil},
		{[]int64{a, bc, long}, impl.OK, "abcabcdefgh", nil},
		{[]int64{long, bc, a}, impl.OK, "abcdefghbca", nil},
		{[]int64{a, a}, impl.OK, "aa", nil},
		{[]int64{long, long, long}, impl.OK, "abcdefghabcdefghabcdefgh", nil},
		{[]int64{0, math.MaxUint32, 0}, impl.OK, bytesOfZero + bytesOfLargest + bytesOfZero, nil},
		{[]int64{x}, impl.ErrAway, "", []int64{x}},
		{[]int64{1, math.MaxUint32 - 1}, impl.ErrAway, "", []int64{1, math.MaxUint32 - 1}},
		{[]int64{a, x}, impl.ErrAway, "", []int64{x}},
		{[]int64{a, bc, x}, impl.ErrAway, "", []int64{x}},
		{[]int64{x, a, bc}, impl.ErrAway, "", []int64{x}},
		{[]int64{x, x}, impl.ErrAway, "", []int64{x}},
		{[]int64{x, a, x}, impl.ErrAway, "", []int64{x}},
		{[]int64{x, x, y}, impl.ErrAway, "", []int64{x, y}},
		{[]int64{x, y, x}, impl.ErrAway, "", []int64{x, y}},
		{[]int64{x, y, y}, impl.ErrAway, "", []int64{x, y}},
		{[]int64{x, y, z}, impl.ErrAway, "", []int64{x, y, z}},
		{[]int64{z, y, x}, impl.ErrAway, "", []int64{z, y, x}},
		{[]int64{y, z, x}, impl.ErrAway, "", []int64{y, z, x}},
	}
	for _, k := range known {
		wantAnswer(t, "JoinChunks of "+told(k.digests), impl.JoinChunks(list, k.digests), impl.BytesResult{Code: k.code, Bytes: []byte(k.joined)})
		wantAnswer(t, "MissingOf "+told(k.digests), impl.MissingOf(list, k.digests), impl.IntsResult{List: k.missing})
		away := slices.Compact(slices.Sorted(slices.Values(k.digests)))
		if got := slices.Sorted(slices.Values(impl.MissingOf(nil, k.digests).List)); !slices.Equal(got, away) {
			t.Errorf("MissingOf %v where there are no chunks: %v", k.digests, got)
		}
	}
}

func TestDigestsThatMayNotBeAsked(t *testing.T) {
	a := chunkOf("a").Digest
	wrong := []struct {
		digests []int64
		code    int64
	}{
		{[]int64{a, a, a, a}, impl.ErrMany},
		{[]int64{0, 0, 0, 0}, impl.ErrMany},
		{[]int64{-1, -1, -1, -1}, impl.ErrMany},
		{slices.Repeat([]int64{a}, 1000), impl.ErrMany},
		{[]int64{-1}, impl.ErrRange},
		{[]int64{1 << 32}, impl.ErrRange},
		{[]int64{a + 1<<32}, impl.ErrRange},
		{[]int64{math.MinInt64}, impl.ErrRange},
		{[]int64{math.MaxInt64}, impl.ErrRange},
		{[]int64{a, -1}, impl.ErrRange},
		{[]int64{a, a, -1}, impl.ErrRange},
		{[]int64{a + 1, a + 1, 1 << 32}, impl.ErrRange},
		{[]int64{a + 1, -1, a}, impl.ErrRange},
	}
	for _, w := range wrong {
		for _, list := range [][]impl.Chunk{nil, chunksOf("a"), numberedChunks(impl.MaxChunks)} {
			wantAnswer(t, "JoinChunks", impl.JoinChunks(list, w.digests), impl.BytesResult{Code: w.code})
			wantAnswer(t, "MissingOf", impl.MissingOf(list, w.digests), impl.IntsResult{Code: w.code})
		}
	}
}

// TestManyStepsAsBytesByDigest goes on from list to list, beside a map that is kept apart from the program.
func TestManyStepsAsBytesByDigest(t *testing.T) {
	texts := append(numberedTexts(60), bytesOfZero, bytesOfLargest, firstOfTwo, secondOfTwo)
	spread := uint32(7)
	next := func(n int) int {
		spread = spread*1664525 + 1013904223
		return int(spread>>8) % n
	}
	var list []impl.Chunk
	kept := map[int64]string{}
	for range 4000 {
		text := texts[next(len(texts))]
		digest := chunkOf(text).Digest
		_, there := kept[digest]
		var got impl.ChunksResult
		want := int64(impl.OK)
		if next(5) < 3 {
			got = impl.PutChunk(list, digest, []byte(text))
			if !there && len(kept) == 40 {
				want = impl.ErrMany
			} else if !there {
				kept[digest] = text
			}
		} else {
			got = impl.DropChunk(list, digest)
			delete(kept, digest)
			if !there {
				want = impl.ErrNone
			}
		}
		if got.Code != want {
			t.Fatalf("code %d, not %d", got.Code, want)
		}
		if want == impl.OK {
			list = got.Chunks
		}
		var all []string
		for _, text := range kept {
			all = append(all, text)
		}
		if told(list) != told(chunksOf(all...)) {
			t.Fatalf("%s, not %s", told(list), told(chunksOf(all...)))
		}
	}
}
