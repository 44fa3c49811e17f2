package tests

import (
	"cmp"
	"fmt"
	"maps"
	"math"
	"slices"
	"strings"
	"testing"

	"loop.example/g00299/impl"
)

// Texts of chunks: three that are full, and two that a file may end with.
const (
	partOne   = "ijklmnop"
	partTwo   = "abcdefgh"
	partThree = "qrstuvwx"
	partShort = "yz"
	partLone  = "s"
)

// piecesIn: the texts of the chunks that files with these bytes have, each once.
func piecesIn(datas ...string) []string {
	var pieces []string
	for _, data := range datas {
		for piece := range slices.Chunk([]byte(data), 8) {
			if !slices.Contains(pieces, string(piece)) {
				pieces = append(pieces, string(piece))
			}
		}
	}
	return pieces
}

func chunksFor(datas ...string) []impl.Chunk { return chunksOf(piecesIn(datas...)...) }

// fileOfChunks: a file whose chunks have these texts, whatever its Size is.
func fileOfChunks(path string, size int64, texts ...string) impl.Entry {
	return impl.Entry{Path: path, Kind: 1, Size: size, Chunks: digestsOfTexts(texts...)}
}

func textByDigest(chunks []impl.Chunk) map[int64]string {
	texts := map[int64]string{}
	for _, c := range chunks {
		texts[c.Digest] = string(c.Bytes)
	}
	return texts
}

// foundFile: the file that is seen, the code that is asked of each function with a path, and the chunks that are there.
type foundFile struct {
	e      impl.Entry
	code   int64
	chunks []impl.Chunk
}

func fileByHand(layers [][]impl.Entry, chunks []impl.Chunk, p string) foundFile {
	look, _ := overByHand(layers, p)
	if code := cmp.Or(layersFaultByHand(layers), chunksFaultByHand(chunks), look.Code); code != impl.OK {
		return foundFile{code: code}
	}
	if look.Layer[0].Kind != 1 {
		return foundFile{code: impl.ErrDir}
	}
	return foundFile{e: look.Layer[0], chunks: chunks}
}

func awayByHand(chunks []impl.Chunk, digests []int64) []int64 {
	texts := textByDigest(chunks)
	return uniqueInOrder(slices.DeleteFunc(slices.Clone(digests), func(n int64) bool { return texts[n] != "" }))
}

func awayOverByHand(f foundFile) impl.IntsResult {
	return impl.IntsResult{Code: f.code, List: awayByHand(f.chunks, f.e.Chunks)}
}

func readOverByHand(f foundFile) impl.BytesResult {
	if f.code == impl.OK && len(awayByHand(f.chunks, f.e.Chunks)) > 0 {
		f.code = impl.ErrAway
	}
	texts, read := textByDigest(f.chunks), ""
	for _, digest := range f.e.Chunks {
		read += texts[digest]
	}
	if f.code == impl.OK && len(read) != int(f.e.Size) {
		f.code = impl.ErrSum
	}
	if f.code != impl.OK {
		return impl.BytesResult{Code: f.code}
	}
	return impl.BytesResult{Bytes: []byte(read)}
}

func readPartByHand(f foundFile, at int64) impl.BytesResult {
	if f.code != impl.OK {
		return impl.BytesResult{Code: f.code}
	}
	for place, digest := range f.e.Chunks {
		if int64(place) != at {
			continue
		}
		text := textByDigest(f.chunks)[digest]
		if text == "" {
			return impl.BytesResult{Code: impl.ErrAway}
		}
		return impl.BytesResult{Bytes: []byte(text)}
	}
	return impl.BytesResult{Code: impl.ErrRange}
}

func awayInByHand(layers [][]impl.Entry, chunks []impl.Chunk) impl.IntsResult {
	if code := cmp.Or(layersFaultByHand(layers), chunksFaultByHand(chunks)); code != impl.OK {
		return impl.IntsResult{Code: code}
	}
	seen := seenByHand(layers)
	var digests []int64
	for _, p := range slices.Sorted(maps.Keys(seen)) {
		digests = append(digests, seen[p].e.Chunks...)
	}
	return impl.IntsResult{List: awayByHand(chunks, digests)}
}

// placesToRead: all places that a file may have, those beside them, and some that come to them if bits are lost.
func placesToRead() []int64 {
	return []int64{0, 1, 2, 3, 4, -1, -2, -3, math.MinInt64, math.MaxInt64, 1 << 32, 1<<32 + 1, -1 << 32, 1 << 31, 256, 257, 1 << 16, math.MinInt64 + 1}
}

func wantOneRead(t *testing.T, name func() string, got impl.BytesResult, want impl.BytesResult) {
	t.Helper()
	if got.Code != want.Code || string(got.Bytes) != string(want.Bytes) {
		t.Fatalf("%s: %d and %q, not %d and %q", name(), got.Code, got.Bytes, want.Code, want.Bytes)
	}
}

func wantOneAway(t *testing.T, name func() string, got impl.IntsResult, want impl.IntsResult) {
	t.Helper()
	if got.Code != want.Code || !slices.Equal(got.List, want.List) {
		t.Fatalf("%s: %s, not %s", name(), told(got), told(want))
	}
}

// wantLazyAt asks all functions with a path.
func wantLazyAt(t *testing.T, layers [][]impl.Entry, chunks []impl.Chunk, p string) {
	t.Helper()
	name := func() string { return fmt.Sprintf("%q of %s with %s", p, told(layers), told(textsIn(chunks))) }
	found := fileByHand(layers, chunks, p)
	wantOneRead(t, name, impl.ReadOver(layers, chunks, p), readOverByHand(found))
	wantOneAway(t, name, impl.AwayOver(layers, chunks, p), awayOverByHand(found))
	for _, at := range placesToRead() {
		part := func() string { return fmt.Sprint("part ", at, " of ", name()) }
		wantOneRead(t, part, impl.ReadPart(layers, chunks, p, at), readPartByHand(found, at))
	}
}

func wantLazy(t *testing.T, layers [][]impl.Entry, chunks []impl.Chunk) {
	t.Helper()
	for _, p := range append(pathsToLookAt(layers), "/", "", "/a/", "/abcde") {
		wantLazyAt(t, layers, chunks, p)
	}
	name := func() string { return told(layers) + " with " + told(textsIn(chunks)) }
	want := awayInByHand(layers, chunks)
	wantOneAway(t, name, impl.AwayIn(layers, chunks), want)
	if whole := impl.IsWhole(layers, chunks); whole != (want.Code == impl.OK && len(want.List) == 0) {
		t.Fatalf("%s: whole is %v, and away is %s", name(), whole, told(want))
	}
}

func TestTextsToReadAreWhatTheySay(t *testing.T) {
	parts := []string{partOne, partTwo, partThree, partShort, partLone}
	for i, length := range []int{8, 8, 8, 2, 1} {
		if len(parts[i]) != length {
			t.Errorf("%q has not %d bytes", parts[i], length)
		}
	}
	for _, texts := range [][]string{parts, parts[:3], parts[1:4]} {
		digests := digestsOfTexts(texts...)
		if len(uniqueInOrder(digests)) != len(texts) || slices.IsSorted(digests) {
			t.Errorf("%v would stay as it is if it were sorted", digests)
		}
	}
}

// knownFile: what is read of one path, and which of its chunks are away.
type knownFile struct {
	name   string
	layers [][]impl.Entry
	there  []string
	path   string
	code   int64
	read   string
	away   []string
}

func knownFiles() []knownFile {
	three, short := partOne+partTwo+partThree, partOne+partTwo+partShort
	file := func(data string) [][]impl.Entry { return [][]impl.Entry{layerOf(fileAt("/a", data))} }
	low := layerOf(dirAt("/a"), fileAt("/a/b", three), fileAt("/c", partLone))
	over := func(high ...impl.Entry) [][]impl.Entry { return [][]impl.Entry{low, high} }
	all := []string{partOne, partTwo, partThree, partShort, partLone}
	return []knownFile{
		{"one byte", file(partLone), all, "/a", impl.OK, partLone, nil},
		{"one byte away", file(partLone), all[:4], "/a", impl.ErrAway, "", []string{partLone}},
		{"a chunk that is short", file(partShort), []string{partShort}, "/a", impl.OK, partShort, nil},
		{"a chunk that is full", file(partTwo), all, "/a", impl.OK, partTwo, nil},
		{"two chunks that are full", file(partTwo + partOne), all, "/a", impl.OK, partTwo + partOne, nil},
		{"two chunks, the last one short", file(partTwo + partLone), all, "/a", impl.OK, partTwo + partLone, nil},
		{"three chunks that are full", file(three), all[:3], "/a", impl.OK, three, nil},
		{"three chunks, the last one short", file(short), all, "/a", impl.OK, short, nil},
		{"three chunks, none there", file(three), nil, "/a", impl.ErrAway, "", []string{partOne, partTwo, partThree}},
		{"three chunks, and others there", file(three), []string{partShort, partLone}, "/a", impl.ErrAway, "", []string{partOne, partTwo, partThree}},
		{"the first one away", file(three), []string{partTwo, partThree}, "/a", impl.ErrAway, "", []string{partOne}},
		{"the one between away", file(three), []string{partOne, partThree}, "/a", impl.ErrAway, "", []string{partTwo}},
		{"the last one away", file(three), []string{partOne, partTwo}, "/a", impl.ErrAway, "", []string{partThree}},
		{"the first one there", file(three), []string{partOne}, "/a", impl.ErrAway, "", []string{partTwo, partThree}},
		{"the last one there", file(three), []string{partThree}, "/a", impl.ErrAway, "", []string{partOne, partTwo}},
		{"the short one away", file(short), []string{partOne, partTwo, partThree}, "/a", impl.ErrAway, "", []string{partShort}},
		{"no bytes", file(""), nil, "/a", impl.OK, "", nil},
		{"no bytes, and chunks", file(""), all, "/a", impl.OK, "", nil},
		{"no layer", nil, all, "/a", impl.ErrNone, "", nil},
		{"a layer of nothing", [][]impl.Entry{nil}, all, "/a", impl.ErrNone, "", nil},
		{"what is not there", file(three), all, "/b", impl.ErrNone, "", nil},
		{"what is below a file", file(three), all, "/a/b", impl.ErrNone, "", nil},
		{"the top", file(three), all, "/", impl.ErrText, "", nil},
		{"a directory", [][]impl.Entry{low}, all, "/a", impl.ErrDir, "", nil},
		{"an opaque directory", over(opaqueAt("/a")), all, "/a", impl.ErrDir, "", nil},
		{"a directory over a file", over(dirAt("/c")), all, "/c", impl.ErrDir, "", nil},
		{"a white", [][]impl.Entry{layerOf(whiteAt("/a"))}, all, "/a", impl.ErrNone, "", nil},
		{"below a directory", [][]impl.Entry{low}, all, "/a/b", impl.OK, three, nil},
		{"through a layer of nothing", over(), all, "/a/b", impl.OK, three, nil},
		{"through a directory", over(dirAt("/a")), all, "/a/b", impl.OK, three, nil},
		{"through four layers", [][]impl.Entry{low, nil, layerOf(dirAt("/a")), layerOf(fileAt("/d", ""))}, all, "/a/b", impl.OK, three, nil},
		{"a white over a file", over(whiteAt("/c")), all, "/c", impl.ErrNone, "", nil},
		{"a white above a file", over(whiteAt("/a")), all, "/a/b", impl.ErrNone, "", nil},
		{"an opaque directory above a file", over(opaqueAt("/a")), all, "/a/b", impl.ErrNone, "", nil},
		{"a file above a file", over(fileAt("/a", partLone)), all, "/a/b", impl.ErrNone, "", nil},
		{"a file over a file", over(dirAt("/a"), fileAt("/a/b", partLone)), all, "/a/b", impl.OK, partLone, nil},
		{"a file over a file, the lower one away", over(dirAt("/a"), fileAt("/a/b", partLone)), all[4:], "/a/b", impl.OK, partLone, nil},
		{"a file over a file, the upper one away", over(dirAt("/a"), fileAt("/a/b", partLone)), all[:4], "/a/b", impl.ErrAway, "", []string{partLone}},
		{"no bytes over a file", over(dirAt("/a"), fileAt("/a/b", "")), nil, "/a/b", impl.OK, "", nil},
		{"a file over a directory", over(fileAt("/a", short)), all, "/a", impl.OK, short, nil},
		{"a file over a directory, away", over(fileAt("/a", short)), all[1:4], "/a", impl.ErrAway, "", []string{partOne}},
		{"a file over a white", [][]impl.Entry{low, layerOf(whiteAt("/c")), layerOf(fileAt("/c", short))}, all, "/c", impl.OK, short, nil},
	}
}

func TestLazyKnown(t *testing.T) {
	for _, k := range knownFiles() {
		chunks := chunksOf(k.there...)
		read, away := impl.BytesResult{Code: k.code, Bytes: []byte(k.read)}, impl.IntsResult{List: digestsOfTexts(k.away...)}
		if k.code != impl.ErrAway {
			away.Code = k.code
		}
		for len(k.layers) <= 4 {
			wantAnswer(t, "ReadOver "+k.name, impl.ReadOver(k.layers, chunks, k.path), read)
			wantAnswer(t, "AwayOver "+k.name, impl.AwayOver(k.layers, chunks, k.path), away)
			wantLazy(t, k.layers, chunks)
			k.layers, k.name = append(slices.Clone(k.layers), nil), k.name+", one of nothing above"
		}
	}
}

// TestEachLengthIsRead: files of each length, with all chunks and others that no file asks for.
func TestEachLengthIsRead(t *testing.T) {
	for n := range impl.MaxBytes + 1 {
		data, name := string(countedBytes(n)), fmt.Sprint(n, " bytes")
		for _, others := range [][]string{nil, {partOne, partShort}, numberedTexts(30)} {
			layers, chunks := [][]impl.Entry{layerOf(fileAt("/a", data))}, chunksFor(append(others, data)...)
			wantAnswer(t, name, impl.ReadOver(layers, chunks, "/a"), impl.BytesResult{Bytes: []byte(data)})
			wantAnswer(t, name, impl.AwayOver(layers, chunks, "/a"), impl.IntsResult{})
			wantAnswer(t, name, impl.AwayIn(layers, chunks), impl.IntsResult{})
			if !impl.IsWhole(layers, chunks) {
				t.Errorf("%d bytes are not whole", n)
			}
			places := int64(0)
			for piece := range slices.Chunk([]byte(data), 8) {
				wantAnswer(t, name, impl.ReadPart(layers, chunks, "/a", places), impl.BytesResult{Bytes: piece})
				places++
			}
			wantAnswer(t, "behind "+name, impl.ReadPart(layers, chunks, "/a", places), impl.BytesResult{Code: impl.ErrRange})
			wantLazy(t, layers, chunks)
		}
	}
}

// TestFilesOfNoBytes: they are read where no chunk is there, and nothing of them is away.
func TestFilesOfNoBytes(t *testing.T) {
	lone := [][]impl.Entry{layerOf(fileAt("/a", ""))}
	listed := [][]impl.Entry{layerOf(impl.Entry{Path: "/a", Kind: 1, Chunks: []int64{}})}
	several := [][]impl.Entry{layerOf(fileAt("/a", ""), fileAt("/b", "")), layerOf(fileAt("/a", ""), dirAt("/c"), fileAt("/c/d", ""))}
	over := [][]impl.Entry{layerOf(fileAt("/a", partOne+partTwo)), layerOf(fileAt("/a", ""))}
	for _, layers := range [][][]impl.Entry{lone, listed, several, over} {
		for _, chunks := range [][]impl.Chunk{nil, {}, chunksOf(partLone), chunksOf(bytesOfZero), chunksOf(partOne, partTwo), numberedChunks(40)} {
			wantAnswer(t, "ReadOver", impl.ReadOver(layers, chunks, "/a"), impl.BytesResult{})
			wantAnswer(t, "AwayOver", impl.AwayOver(layers, chunks, "/a"), impl.IntsResult{})
			wantAnswer(t, "AwayIn", impl.AwayIn(layers, chunks), impl.IntsResult{})
			for _, at := range placesToRead() {
				wantAnswer(t, fmt.Sprint("ReadPart ", at), impl.ReadPart(layers, chunks, "/a", at), impl.BytesResult{Code: impl.ErrRange})
			}
			if !impl.IsWhole(layers, chunks) {
				t.Error("files of no bytes are not whole")
			}
			wantLazy(t, layers, chunks)
		}
	}
	beside := [][]impl.Entry{layerOf(fileAt("/a", ""), fileAt("/b", partLone), fileAt("/c", ""))}
	wantAnswer(t, "a file of bytes beside", impl.AwayIn(beside, nil), impl.IntsResult{List: digestsOfTexts(partLone)})
	if impl.IsWhole(beside, nil) || !impl.IsWhole(beside, chunksOf(partLone)) {
		t.Error("a file of bytes beside those of none")
	}
}

// knownAway: all that is away of what is seen, in order.
type knownAway struct {
	name   string
	layers [][]impl.Entry
	there  []string
	away   []string
}

func wantAway(t *testing.T, list []knownAway) {
	t.Helper()
	for _, k := range list {
		chunks := chunksOf(k.there...)
		wantAnswer(t, k.name, impl.AwayIn(k.layers, chunks), impl.IntsResult{List: digestsOfTexts(k.away...)})
		if impl.IsWhole(k.layers, chunks) != (len(k.away) == 0) {
			t.Errorf("%s: whole is %v", k.name, len(k.away) > 0)
		}
		wantLazy(t, k.layers, chunks)
	}
}

// TestChunkTwice: a chunk that is met again is told once, where it is met first, and read each time.
func TestChunkTwice(t *testing.T) {
	one, two, three, short := partOne, partTwo, partThree, partShort
	file := func(data string) [][]impl.Entry { return [][]impl.Entry{layerOf(fileAt("/a", data))} }
	inOne := layerOf(fileAt("/a", two+one), fileAt("/b", one+three))
	wantAway(t, []knownAway{
		{"twice in one file", file(one + one), nil, []string{one}},
		{"thrice in one file", file(one + one + one), nil, []string{one}},
		{"twice, another one between", file(one + two + one), nil, []string{one, two}},
		{"twice, another one ahead", file(two + one + one), nil, []string{two, one}},
		{"twice, another one behind", file(one + one + short), nil, []string{one, short}},
		{"twice and there, another one away", file(one + two + one), []string{one}, []string{two}},
		{"twice and away, another one there", file(one + two + one), []string{two}, []string{one}},
		{"twice and there", file(one + one), []string{one}, nil},
		{"in two files of one layer", [][]impl.Entry{inOne}, nil, []string{two, one, three}},
		{"in two files of one layer, there", [][]impl.Entry{inOne}, []string{one}, []string{two, three}},
		{"in two files that are the same", [][]impl.Entry{layerOf(fileAt("/a", one+two), fileAt("/b", one+two))}, nil, []string{one, two}},
		{"in two files, the other way round", [][]impl.Entry{layerOf(fileAt("/a", one+two), fileAt("/b", two+one))}, nil, []string{one, two}},
		{"in files of two layers, the path of the upper one ahead", [][]impl.Entry{layerOf(fileAt("/b", three+one)), layerOf(fileAt("/a", one+two))}, nil, []string{one, two, three}},
		{"in files of two layers, the path of the lower one ahead", [][]impl.Entry{layerOf(fileAt("/a", three+one)), layerOf(fileAt("/b", one+two))}, nil, []string{three, one, two}},
		{"in files of two layers of one path", [][]impl.Entry{layerOf(fileAt("/a", one+two)), layerOf(fileAt("/a", two+three))}, nil, []string{two, three}},
		{"in four layers", [][]impl.Entry{layerOf(fileAt("/d", one+two)), layerOf(fileAt("/c", two+short)), layerOf(fileAt("/b", one)), layerOf(fileAt("/a", short))}, nil, []string{short, one, two}},
		{"in order of bytes, not of names", [][]impl.Entry{layerOf(dirAt("/b"), fileAt("/b/a", one)), layerOf(fileAt("/ba", two)), layerOf(fileAt("/a", three))}, nil, []string{three, one, two}},
		{"in a file that is hidden, and in one that is seen", [][]impl.Entry{layerOf(fileAt("/a", one+two), fileAt("/b", two+three)), layerOf(whiteAt("/a"))}, nil, []string{two, three}},
	})
	for _, data := range []string{one + one, one + one + one, one + two + one, two + one + one, one + one + short, one + one + two} {
		wantAnswer(t, data, impl.ReadOver(file(data), chunksFor(data), "/a"), impl.BytesResult{Bytes: []byte(data)})
		wantAnswer(t, data, impl.ReadOver(file(data), chunksOf(two, short), "/a"), impl.BytesResult{Code: impl.ErrAway})
		wantAnswer(t, data, impl.AwayOver(file(data), nil, "/a"), impl.IntsResult{List: digestsOfTexts(piecesIn(data)...)})
		wantAnswer(t, data, impl.AwayOver(file(data), chunksOf(two, short), "/a"), impl.IntsResult{List: digestsOfTexts(one)})
		for place, piece := range slices.Collect(slices.Chunk([]byte(data), 8)) {
			want := impl.BytesResult{Code: impl.ErrAway}
			if string(piece) == one {
				want = impl.BytesResult{Bytes: piece}
			}
			wantAnswer(t, data, impl.ReadPart(file(data), chunksOf(one), "/a", int64(place)), want)
		}
	}
}

// TestAwayOfWhatIsHidden: of a file that is not seen nothing is away, whatever hides it.
func TestAwayOfWhatIsHidden(t *testing.T) {
	low := layerOf(dirAt("/a"), dirAt("/a/b"), fileAt("/a/b/c", partOne), fileAt("/a/d", partTwo), fileAt("/e", partThree))
	over := func(high ...impl.Entry) [][]impl.Entry { return [][]impl.Entry{low, high} }
	one, two, three, lone := partOne, partTwo, partThree, partLone
	wantAway(t, []knownAway{
		{"no layer", nil, nil, nil},
		{"no layer, and chunks", nil, []string{one}, nil},
		{"layers of nothing", [][]impl.Entry{nil, {}, nil, nil}, nil, nil},
		{"directories alone", [][]impl.Entry{layerOf(dirAt("/a"), opaqueAt("/a/b"), whiteAt("/c"))}, nil, nil},
		{"all is seen", over(), nil, []string{one, two, three}},
		{"all is seen, and some there", over(), []string{two}, []string{one, three}},
		{"all is seen and there", over(), []string{three, two, one, lone}, nil},
		{"one is white", over(whiteAt("/e")), nil, []string{one, two}},
		{"one is white below", over(dirAt("/a"), whiteAt("/a/d")), nil, []string{one, three}},
		{"one is white three names deep", over(dirAt("/a"), dirAt("/a/b"), whiteAt("/a/b/c")), nil, []string{two, three}},
		{"all below is white", over(whiteAt("/a")), nil, []string{three}},
		{"all is white", over(whiteAt("/a"), whiteAt("/e")), nil, nil},
		{"an opaque directory", over(opaqueAt("/a")), nil, []string{three}},
		{"an opaque directory with a file", over(opaqueAt("/a"), fileAt("/a/d", lone)), nil, []string{lone, three}},
		{"an opaque directory below", over(dirAt("/a"), opaqueAt("/a/b")), nil, []string{two, three}},
		{"a file above", over(fileAt("/a", lone)), nil, []string{lone, three}},
		{"a file of no bytes above", over(fileAt("/a", "")), nil, []string{three}},
		{"a file over it", over(fileAt("/e", lone)), nil, []string{one, two, lone}},
		{"a file of no bytes over it", over(fileAt("/e", "")), nil, []string{one, two}},
		{"a directory over it", over(dirAt("/e")), nil, []string{one, two}},
		{"a directory over a directory", over(dirAt("/a")), nil, []string{one, two, three}},
		{"white, and there again", [][]impl.Entry{low, layerOf(whiteAt("/e")), layerOf(fileAt("/e", lone))}, nil, []string{one, two, lone}},
		{"there, white, and the same there again", [][]impl.Entry{low, layerOf(whiteAt("/a"), whiteAt("/e")), low}, nil, []string{one, two, three}},
		{"a white below it", [][]impl.Entry{layerOf(whiteAt("/a"), whiteAt("/e")), low}, nil, []string{one, two, three}},
		{"hidden and away, seen and there", over(whiteAt("/a"), fileAt("/e", lone)), []string{lone}, nil},
		{"hidden and there, seen and away", over(whiteAt("/a"), fileAt("/e", lone)), []string{one, two, three}, []string{lone}},
	})
	for _, p := range []string{"/a/b/c", "/a/d", "/e"} {
		hidden := over(whiteAt("/a"), whiteAt("/e"))
		for _, chunks := range [][]impl.Chunk{nil, chunksOf(one, two, three)} {
			wantAnswer(t, "ReadOver of what is hidden", impl.ReadOver(hidden, chunks, p), impl.BytesResult{Code: impl.ErrNone})
			wantAnswer(t, "AwayOver of what is hidden", impl.AwayOver(hidden, chunks, p), impl.IntsResult{Code: impl.ErrNone})
			wantAnswer(t, "ReadPart of what is hidden", impl.ReadPart(hidden, chunks, p, 0), impl.BytesResult{Code: impl.ErrNone})
		}
	}
}

// TestPartsAlone: a part is read by its own chunk alone, and none is at another place.
func TestPartsAlone(t *testing.T) {
	for _, data := range []string{partLone, partOne, partOne + partShort, partOne + partTwo, partOne + partTwo + partLone, partOne + partTwo + partThree} {
		layers, pieces := [][]impl.Entry{layerOf(dirAt("/a"), fileAt("/a/b", data))}, piecesIn(data)
		for place, piece := range pieces {
			alone, others := chunksOf(piece), chunksOf(slices.Concat(pieces[:place], pieces[place+1:], []string{"else"})...)
			at := int64(place)
			wantAnswer(t, data+", its chunk alone", impl.ReadPart(layers, alone, "/a/b", at), impl.BytesResult{Bytes: []byte(piece)})
			wantAnswer(t, data+", all but its chunk", impl.ReadPart(layers, others, "/a/b", at), impl.BytesResult{Code: impl.ErrAway})
			wantAnswer(t, data+", nothing there", impl.ReadPart(layers, nil, "/a/b", at), impl.BytesResult{Code: impl.ErrAway})
			wantAnswer(t, data+", all there", impl.ReadPart(layers, chunksFor(data), "/a/b", at), impl.BytesResult{Bytes: []byte(piece)})
			for other := range pieces {
				if other != place {
					wantAnswer(t, data+", another chunk", impl.ReadPart(layers, alone, "/a/b", int64(other)), impl.BytesResult{Code: impl.ErrAway})
				}
			}
		}
		for _, at := range placesToRead() {
			if at < 0 || at >= int64(len(pieces)) {
				for _, chunks := range [][]impl.Chunk{nil, chunksOf(pieces[0]), chunksFor(data)} {
					wantAnswer(t, fmt.Sprint(data, " at ", at), impl.ReadPart(layers, chunks, "/a/b", at), impl.BytesResult{Code: impl.ErrRange})
				}
			}
		}
	}
}

// TestSizesThatAreNotSo: the bytes do not make up Size; where some are away that is told, and parts are read all the same.
func TestSizesThatAreNotSo(t *testing.T) {
	one, two, short, lone := partOne, partTwo, partShort, partLone
	for _, k := range []struct {
		name string
		e    impl.Entry
		read string
		code int64
	}{
		{"a byte fewer than Size", fileOfChunks("/a", 3, short), "", impl.ErrSum},
		{"a byte more than Size", fileOfChunks("/a", 1, short), "", impl.ErrSum},
		{"a full chunk of a small Size", fileOfChunks("/a", 1, one), "", impl.ErrSum},
		{"a small chunk of a full Size", fileOfChunks("/a", 8, lone), "", impl.ErrSum},
		{"two chunks, a byte fewer", fileOfChunks("/a", 11, one, short), "", impl.ErrSum},
		{"two chunks, a byte more", fileOfChunks("/a", 9, one, short), "", impl.ErrSum},
		{"two full chunks of one more than one", fileOfChunks("/a", 9, one, two), "", impl.ErrSum},
		{"three chunks, the first one short", fileOfChunks("/a", 24, short, one, two), "", impl.ErrSum},
		{"three small ones", fileOfChunks("/a", 17, lone, lone, lone), "", impl.ErrSum},
		{"one chunk thrice, a byte fewer", fileOfChunks("/a", 23, one, one, one), "", impl.ErrSum},
		{"the first one short, and Size so", fileOfChunks("/a", 10, short, one), short + one, impl.OK},
		{"two that are not full, and Size so", fileOfChunks("/a", 9, "abcd", "vwxyz"), "abcdvwxyz", impl.OK},
		{"one between is short, and Size so", fileOfChunks("/a", 17, one, lone, two), one + lone + two, impl.OK},
	} {
		var pieces []string
		for _, text := range []string{one, two, short, lone, "abcd", "vwxyz"} {
			if slices.Contains(k.e.Chunks, chunkOf(text).Digest) {
				pieces = append(pieces, text)
			}
		}
		layers := [][]impl.Entry{layerOf(k.e)}
		wantAnswer(t, k.name, impl.ReadOver(layers, chunksOf(pieces...), "/a"), impl.BytesResult{Code: k.code, Bytes: []byte(k.read)})
		wantAnswer(t, k.name+", away", impl.AwayOver(layers, chunksOf(pieces...), "/a"), impl.IntsResult{})
		if !impl.IsWhole(layers, chunksOf(pieces...)) {
			t.Errorf("%s: nothing is away, but it is not whole", k.name)
		}
		for i := range pieces {
			some := chunksOf(slices.Concat(pieces[:i], pieces[i+1:])...)
			wantAnswer(t, k.name+", and one away", impl.ReadOver(layers, some, "/a"), impl.BytesResult{Code: impl.ErrAway})
			wantLazy(t, layers, some)
		}
		wantAnswer(t, k.name+", and all away", impl.ReadOver(layers, nil, "/a"), impl.BytesResult{Code: impl.ErrAway})
		wantLazy(t, layers, chunksOf(pieces...))
	}
}

// TestBytesOfOneDigest: what is read is what is there of the digest, as nobody can tell it from other bytes of it.
func TestBytesOfOneDigest(t *testing.T) {
	layers := [][]impl.Entry{layerOf(fileAt("/a", firstOfTwo), fileAt("/b", secondOfTwo))}
	for _, text := range []string{firstOfTwo, secondOfTwo} {
		for _, p := range []string{"/a", "/b"} {
			wantAnswer(t, p, impl.ReadOver(layers, chunksOf(text), p), impl.BytesResult{Bytes: []byte(text)})
			wantAnswer(t, p, impl.ReadPart(layers, chunksOf(text), p, 0), impl.BytesResult{Bytes: []byte(text)})
		}
	}
	wantAnswer(t, "away", impl.AwayIn(layers, nil), impl.IntsResult{List: digestsOfTexts(firstOfTwo)})
	ends := [][]impl.Entry{layerOf(fileAt("/a", bytesOfZero+bytesOfLargest), fileAt("/b", bytesOfLargest+bytesOfOne+bytesOfZero))}
	wantAnswer(t, "the ends are away", impl.AwayIn(ends, nil), impl.IntsResult{List: []int64{0, math.MaxUint32, 1}})
	wantAnswer(t, "the ends are there", impl.ReadOver(ends, chunksOf(bytesOfZero, bytesOfLargest), "/a"), impl.BytesResult{Bytes: []byte(bytesOfZero + bytesOfLargest)})
	wantLazy(t, ends, chunksOf(bytesOfLargest))
	wantLazy(t, ends, chunksOf(bytesOfZero, bytesOfOne))
}

// dataToRead: the bytes of each file that is seen in layersToReadLazily.
func dataToRead() map[string]string {
	return map[string]string{
		"/a/b": partOne + partTwo + partThree, "/a/c": partTwo + partShort, "/a/d": partShort, "/e": "", "/f": partTwo + partTwo, "/g/h": partThree + partOne,
	}
}

func layersToReadLazily() [][]impl.Entry {
	data := dataToRead()
	at := func(p string) impl.Entry { return fileAt(p, data[p]) }
	return [][]impl.Entry{
		layerOf(dirAt("/a"), at("/a/b"), at("/a/c"), at("/e"), fileAt("/f", partLone), fileAt("/i", "hidden")),
		layerOf(dirAt("/a"), at("/a/d"), at("/f"), dirAt("/g"), at("/g/h"), whiteAt("/i")),
	}
}

// someOf: the texts whose bit is set.
func someOf(texts []string, bits int) []string {
	var some []string
	for i, text := range texts {
		if bits>>i&1 == 1 {
			some = append(some, text)
		}
	}
	return some
}

// wantReadStays: of each path, what was read with some chunks is read with more of them, and is the file's own bytes.
func wantReadStays(t *testing.T, layers [][]impl.Entry, some []impl.Chunk, more []impl.Chunk) {
	t.Helper()
	for p, data := range dataToRead() {
		name := func() string { return fmt.Sprintf("%s with %q, then with %q", p, textsIn(some), textsIn(more)) }
		early, late := impl.ReadOver(layers, some, p), impl.ReadOver(layers, more, p)
		if early.Code != impl.ErrAway {
			wantOneRead(t, name, early, impl.BytesResult{Bytes: []byte(data)})
			wantOneRead(t, name, late, early)
		}
		if away := impl.AwayOver(layers, some, p); away.Code != impl.OK || (early.Code == impl.ErrAway) != (len(away.List) > 0) {
			t.Fatalf("%s: %d is read, and away is %s", name(), early.Code, told(away))
		}
		for place, piece := range slices.Collect(slices.Chunk([]byte(data), 8)) {
			early, late := impl.ReadPart(layers, some, p, int64(place)), impl.ReadPart(layers, more, p, int64(place))
			if early.Code != impl.ErrAway {
				wantOneRead(t, name, early, impl.BytesResult{Bytes: piece})
				wantOneRead(t, name, late, early)
			}
		}
	}
}

// TestWhatWasReadStays goes from each choice of chunks to each that has more of them.
func TestWhatWasReadStays(t *testing.T) {
	layers, texts := layersToReadLazily(), []string{partOne, partTwo, partThree, partShort, "hidden", "no file"}
	needed := texts[:4]
	for more := range 1 << len(texts) {
		late := chunksOf(someOf(texts, more)...)
		for some := range more + 1 {
			if some&more != some {
				continue
			}
			early := chunksOf(someOf(texts, some)...)
			wantReadStays(t, layers, early, late)
			left := awayByHand(late, impl.AwayIn(layers, early).List)
			wantOneAway(t, func() string { return told(textsIn(late)) }, impl.AwayIn(layers, late), impl.IntsResult{List: left})
		}
		whole := len(someOf(needed, more)) == len(needed)
		if impl.IsWhole(layers, late) != whole {
			t.Fatalf("with %q whole is %v", textsIn(late), !whole)
		}
		wantLazy(t, layers, late)
	}
}

// TestWhereNothingIsAwayEachFileIsRead: each file is read, as it is where IsWhole says so, and one of them is not where a chunk goes.
func TestWhereNothingIsAwayEachFileIsRead(t *testing.T) {
	layers, data := layersToReadLazily(), dataToRead()
	chunks := chunksFor(slices.Collect(maps.Values(data))...)
	for _, p := range impl.PathsOver(layers).Names {
		want, is := data[p]
		if read := impl.ReadOver(layers, chunks, p); is {
			wantAnswer(t, p, read, impl.BytesResult{Bytes: []byte(want)})
		} else {
			wantAnswer(t, p, read, impl.BytesResult{Code: impl.ErrDir})
		}
	}
	if !impl.IsWhole(layers, chunks) || len(impl.AwayIn(layers, chunks).List) > 0 {
		t.Error("all is there, but it is not whole")
	}
	for _, c := range chunks {
		left := impl.DropChunk(chunks, c.Digest).Chunks
		wantAnswer(t, "one chunk away", impl.AwayIn(layers, left), impl.IntsResult{List: []int64{c.Digest}})
		away := 0
		for p := range data {
			if impl.ReadOver(layers, left, p).Code == impl.ErrAway {
				away++
			}
		}
		if away == 0 || impl.IsWhole(layers, left) {
			t.Errorf("without %q %d files are away, and whole is %v", c.Bytes, away, impl.IsWhole(layers, left))
		}
	}
}

// TestReadWhileItIsFetched hears the chunks in each order, wrong bytes between, and reads behind each step.
func TestReadWhileItIsFetched(t *testing.T) {
	layers, texts := layersToReadLazily(), []string{partOne, partTwo, partThree, partShort}
	for order := range 4 * 4 * 4 * 4 {
		places := []int{order % 4, order / 4 % 4, order / 16 % 4, order / 64}
		if slices.Sort(places); !slices.Equal(places, []int{0, 1, 2, 3}) {
			continue
		}
		f := impl.Fetch{}
		for _, layer := range layers {
			f = impl.AskLayer(f, layer).Fetch
		}
		for _, place := range []int{order % 4, order / 4 % 4, order / 16 % 4, order / 64} {
			before, digest := f.Chunks, chunkOf(texts[place]).Digest
			f = impl.HearFetch(f, digest, []byte("wrong")).Fetch
			wantReadStays(t, layers, before, f.Chunks)
			if impl.IsWhole(layers, f.Chunks) {
				t.Fatalf("whole with %q", textsIn(f.Chunks))
			}
			f = impl.HearFetch(f, digest, []byte(texts[place])).Fetch
			wantReadStays(t, layers, before, f.Chunks)
			wantLazy(t, layers, f.Chunks)
		}
		if !impl.IsWhole(layers, f.Chunks) {
			t.Fatalf("not whole with %q", textsIn(f.Chunks))
		}
	}
}

// mostFiles: four layers of 12 files of three chunks, no two alike, whose paths go from layer to layer; and the texts of all chunks in order of paths.
func mostFiles() ([][]impl.Entry, []string) {
	layers := make([][]impl.Entry, 4)
	var texts []string
	for i := range 48 {
		data := ""
		for part := range 3 {
			data += fmt.Sprintf("file%02d.%d", i, part)
		}
		place := (i*3 + i/4) % 4
		layers[place] = append(layers[place], fileAt(fmt.Sprintf("/%c%c", 'a'+i/8, 'a'+i%8), data))
		texts = append(texts, piecesIn(data)...)
	}
	return layers, texts
}

// TestMostThereMayBe: more is away than one file could ask for, and more than there may be chunks.
func TestMostThereMayBe(t *testing.T) {
	layers, texts := mostFiles()
	if len(texts) != 144 || impl.LayersFault(layers) != impl.OK || len(impl.PathsOver(layers).Names) != 48 {
		t.Fatalf("%d texts, and %d layers with the fault %d", len(texts), len(layers), impl.LayersFault(layers))
	}
	wantAnswer(t, "nothing there", impl.AwayIn(layers, nil), impl.IntsResult{List: digestsOfTexts(texts...)})
	for _, from := range []int{0, 1, 50, 104} {
		there := texts[from : from+40]
		chunks, left := chunksOf(there...), slices.Concat(texts[:from], texts[from+40:])
		wantAnswer(t, fmt.Sprint("40 there from ", from), impl.AwayIn(layers, chunks), impl.IntsResult{List: digestsOfTexts(left...)})
		for i, p := range impl.PathsOver(layers).Names {
			read := impl.BytesResult{Code: impl.ErrAway}
			if i*3 >= from && i*3+3 <= from+40 {
				read = impl.BytesResult{Bytes: []byte(strings.Join(texts[i*3:i*3+3], ""))}
			}
			wantAnswer(t, fmt.Sprint(p, " with 40 from ", from), impl.ReadOver(layers, chunks, p), read)
			wantLazyAt(t, layers, chunks, p)
		}
	}
	files := numberedFiles("m", 12)
	if chunks := chunksOf(slices.Concat(numberedTexts(28), []string{"m0", "m1", "m2", "m3", "m4", "m5", "m6", "m7", "m8", "m9", "m10", "m11"})...); !impl.IsWhole([][]impl.Entry{files, nil, files, files}, chunks) {
		t.Error("12 files with 40 chunks are not whole")
	}
}

func wantLazyCode(t *testing.T, name string, layers [][]impl.Entry, chunks []impl.Chunk, p string, code int64) {
	t.Helper()
	wantAnswer(t, "ReadOver "+name, impl.ReadOver(layers, chunks, p), impl.BytesResult{Code: code})
	wantAnswer(t, "AwayOver "+name, impl.AwayOver(layers, chunks, p), impl.IntsResult{Code: code})
	for _, at := range []int64{0, 1, -1, 3, math.MaxInt64, math.MinInt64} {
		wantAnswer(t, fmt.Sprint("ReadPart ", at, " ", name), impl.ReadPart(layers, chunks, p, at), impl.BytesResult{Code: code})
	}
}

func wantLazyFault(t *testing.T, name string, layers [][]impl.Entry, chunks []impl.Chunk, code int64) {
	t.Helper()
	wantAnswer(t, "AwayIn "+name, impl.AwayIn(layers, chunks), impl.IntsResult{Code: code})
	if impl.IsWhole(layers, chunks) {
		t.Errorf("IsWhole %s", name)
	}
}

// pathsWithFaults: paths of files, of directories, that are not there, and that are none.
func pathsWithFaults() []string {
	return []string{"/a/b", "/a", "/e", "/q", "/", "", "/a/", "/abcde", "/a/b/c/d"}
}

// TestFaultsOfLayersAheadOfChunks: the layers are asked first, whatever fault the chunks or the path have.
func TestFaultsOfLayersAheadOfChunks(t *testing.T) {
	lists, paths := faultyChunks(), pathsWithFaults()
	for i, f := range faultyOvers() {
		wrong := lists[i%len(lists)]
		for _, chunks := range [][]impl.Chunk{nil, chunksOf(partOne, partTwo), wrong.list} {
			name := fmt.Sprint(f.name, " and ", len(chunks), " chunks, perhaps with ", wrong.name)
			wantLazyFault(t, name, f.layers, chunks, f.code)
			for _, p := range []string{paths[i%len(paths)], paths[(i*5+3)%len(paths)]} {
				wantLazyCode(t, name+", "+p, f.layers, chunks, p, f.code)
			}
		}
	}
}

// TestFaultsOfChunksAheadOfPaths: the chunks are asked ahead of the path, and where no file is there too.
func TestFaultsOfChunksAheadOfPaths(t *testing.T) {
	stacks := [][][]impl.Entry{nil, {nil}, {layerOf(fileAt("/a", ""))}, layersToReadLazily(), {layerOf(dirAt("/a"), fileAt("/a/b", "a"), whiteAt("/e"))}}
	for _, f := range faultyChunks() {
		for _, layers := range stacks {
			wantLazyFault(t, f.name, layers, f.list, f.code)
			for _, p := range pathsWithFaults() {
				wantLazyCode(t, f.name+", "+p, layers, f.list, p, f.code)
			}
		}
	}
}

// TestFaultsOfPathsToRead: the path, then what is not there, then the directory, then the place, then what is away.
func TestFaultsOfPathsToRead(t *testing.T) {
	layers := layersToReadLazily()
	whole := chunksFor(slices.Collect(maps.Values(dataToRead()))...)
	for _, chunks := range [][]impl.Chunk{nil, chunksOf(partTwo), whole} {
		for _, f := range faultyPaths() {
			for _, layers := range [][][]impl.Entry{nil, layers} {
				wantLazyCode(t, shortText(f.path), layers, chunks, f.path, f.code)
			}
		}
		for _, p := range []string{"/a", "/g"} {
			wantLazyCode(t, p, layers, chunks, p, impl.ErrDir)
			wantLazyCode(t, p+", opaque", [][]impl.Entry{layers[0], layerOf(opaqueAt("/a"), opaqueAt("/g"))}, chunks, p, impl.ErrDir)
		}
		for _, p := range []string{"/i", "/q", "/a/q", "/a/b/q", "/g/a", "/aa", "/zzzz"} {
			wantLazyCode(t, p, layers, chunks, p, impl.ErrNone)
			wantLazyCode(t, p+", no layers", nil, chunks, p, impl.ErrNone)
		}
		for _, at := range placesToRead()[3:] {
			wantAnswer(t, fmt.Sprint("ReadPart ", at), impl.ReadPart(layers, chunks, "/a/b", at), impl.BytesResult{Code: impl.ErrRange})
		}
	}
}

// TestManyFilesRead reads through long layers with changing chunks, beside what is worked out apart from the program.
func TestManyFilesRead(t *testing.T) {
	spread := uint32(61)
	next := func(n int) int {
		spread = spread*1664525 + 1013904223
		return int(spread>>8) % n
	}
	paths := textsOver([]string{"/a", "/b", "/ab"}, "", 3)
	slices.Sort(paths)
	texts := []string{partOne, partTwo, partThree, partShort, partLone, bytesOfZero, bytesOfLargest}
	file := func(p string) impl.Entry {
		e := fileOfChunks(p, 0)
		for range next(4) {
			text := texts[next(len(texts))]
			e.Chunks = append(e.Chunks, chunkOf(text).Digest)
			e.Size += int64(len(text))
		}
		most := int64(len(e.Chunks) * 8)
		// Short chunks ahead of the last one would leave a Size that is of fewer chunks.
		if e.Size = max(e.Size, most-7, 0); most > 0 && next(4) == 0 {
			e.Size = most - int64(next(8))
		}
		return e
	}
	layer := func() []impl.Entry {
		var out []impl.Entry
		for _, p := range paths {
			if len(out) == 12 || !parentIsThere(out, p) || next(3) == 0 {
				continue
			}
			e := []impl.Entry{file(p), dirAt(p), dirAt(p), whiteAt(p), opaqueAt(p)}[next(5)]
			out = append(out, e)
		}
		return out
	}
	codes := map[string]int{}
	for range 400 {
		layers := [][]impl.Entry{layer(), layer(), layer(), layer()}[:next(5)]
		chunks := chunksOf(someOf(texts, next(1<<len(texts))|next(1<<len(texts)))...)
		wantLazy(t, layers, chunks)
		codes[fmt.Sprint("whole ", impl.IsWhole(layers, chunks))]++
		for _, p := range paths {
			codes[fmt.Sprint("read ", impl.ReadOver(layers, chunks, p).Code)]++
			codes[fmt.Sprint("part ", impl.ReadPart(layers, chunks, p, 1).Code)]++
		}
	}
	for _, code := range []string{"whole true", "whole false", "read 0", "read 4", "read 6", "read 8", "read 9", "part 0", "part 3", "part 8"} {
		if codes[code] < 50 {
			t.Errorf("%s came %d times alone", code, codes[code])
		}
	}
}
