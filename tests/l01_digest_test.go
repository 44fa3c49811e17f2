package tests

import (
	"bytes"
	"hash/fnv"
	"math"
	"slices"
	"strconv"
	"strings"
	"testing"

	"loop.example/g00299/impl"
)

// digestByLibrary works a digest out apart from the program: the loop of the document is the library's FNV-1a.
func digestByLibrary(data []byte) int64 {
	h := fnv.New32a()
	h.Write(data)
	return int64(h.Sum32()) ^ (int64(len(data)) * 65536 % (1 << 32))
}

// countedBytes: n bytes, no two neighbours alike, every value among them where n is 256 or more.
func countedBytes(n int) []byte {
	data := make([]byte, n)
	for i := range data {
		data[i] = byte(i*37 + 11)
	}
	return data
}

// someDigests: the ends of the bounds, each bit alone, each digit at each place, and numbers spread between.
func someDigests() []int64 {
	list := []int64{0, 1, 2166136261, math.MaxUint32 - 1, math.MaxUint32, math.MaxInt32, math.MaxInt32 + 1}
	for bit := range 32 {
		list = append(list, 1<<bit, math.MaxUint32^1<<bit)
	}
	for place := range 8 {
		for digit := range int64(16) {
			list = append(list, digit<<(4*place))
		}
	}
	spread := uint32(1)
	for range 2000 {
		spread = spread*1664525 + 1013904223
		list = append(list, int64(spread))
	}
	return list
}

// noDigests: the numbers next to the bounds outside, and those that look like digests when their upper or lower half is cut off.
func noDigests() []int64 {
	return []int64{
		-1, -2, math.MaxUint32 + 1, math.MaxUint32 + 2, math.MinInt64, math.MinInt64 + 1, math.MaxInt64,
		math.MinInt32, -math.MaxUint32, -2166136261, 2166136261 + 1<<32, 1 << 33, 1 << 62, 811<<32 + 5,
	}
}

func TestCodesAndBounds(t *testing.T) {
	codes := []int64{
		impl.OK, impl.ErrForm, impl.ErrMany, impl.ErrRange, impl.ErrNone, impl.ErrText,
		impl.ErrSum, impl.ErrTaken, impl.ErrAway, impl.ErrDir, impl.ErrState,
	}
	for i, code := range codes {
		if code != int64(i) {
			t.Errorf("code %d is %d", i, code)
		}
	}
	if impl.ChunkBytes != 8 || impl.MaxBytes != 24 {
		t.Errorf("ChunkBytes %d, MaxBytes %d", impl.ChunkBytes, impl.MaxBytes)
	}
}

func TestDigestOfKnownBytes(t *testing.T) {
	known := []struct {
		data   string
		digest int64
	}{
		{"", 0x811c9dc5},
		{"a", 0xe40d292c},
		{"\x00", 0x050d5d1f},
		{"\x7f", 0xfa0d4bce},
		{"\x80", 0x850a939f},
		{"\xff", 0x7a0a824e},
		{"ab", 0x4d2705ca},
		{"ba", 0x3c29a6cc},
		{"abcdefgh", 0x76d2aa8d},
		{"abcdefghi", 0xfe3204ec},
		{"abcdefghijklmnopqrstuvwx", 0x375869fd},
		{strings.Repeat("\x00", 65535), 0x8e3cda47},
		{strings.Repeat("\x00", 65536), 0x5e509dc5},
		{strings.Repeat("\x00", 65537), 0x3de95d1f},
	}
	for _, k := range known {
		if got := impl.DigestOf([]byte(k.data)); got != k.digest {
			t.Errorf("DigestOf of %d bytes %.10q is %d, not %d", len(k.data), k.data, got, k.digest)
		}
	}
	if impl.DigestOf(nil) != impl.DigestOf([]byte{}) {
		t.Error("nil and no bytes have two digests")
	}
}

func TestDigestOfAnyBytes(t *testing.T) {
	var inputs [][]byte
	for n := range 300 {
		inputs = append(inputs, countedBytes(n), make([]byte, n), bytes.Repeat([]byte{0xff}, n))
	}
	for b := range 256 {
		inputs = append(inputs, []byte{byte(b)}, []byte{'a', byte(b)}, []byte{byte(b), 'a'})
	}
	inputs = append(inputs, countedBytes(1<<16), countedBytes(1<<16+5), countedBytes(1<<20))
	for _, data := range inputs {
		got := impl.DigestOf(data)
		if got != digestByLibrary(data) || !impl.IsDigest(got) {
			t.Fatalf("DigestOf of %d bytes %.10v is %d, not %d", len(data), data, got, digestByLibrary(data))
		}
	}
}

func TestIsDigest(t *testing.T) {
	for _, n := range someDigests() {
		if !impl.IsDigest(n) {
			t.Errorf("%d is a digest", n)
		}
	}
	for _, n := range noDigests() {
		if impl.IsDigest(n) {
			t.Errorf("%d is no digest", n)
		}
	}
}

func TestPiecesJoinAgain(t *testing.T) {
	for n := range impl.MaxBytes + 1 {
		for _, data := range [][]byte{countedBytes(n), make([]byte, n), bytes.Repeat([]byte{0xff}, n)} {
			cut := impl.CutChunks(data)
			if cut.Code != impl.OK || !bytes.Equal(bytes.Join(cut.Parts, nil), data) {
				t.Fatalf("%d bytes: %v", n, cut)
			}
			if want := (n + impl.ChunkBytes - 1) / impl.ChunkBytes; len(cut.Parts) != want {
				t.Fatalf("%d bytes are %d pieces, not %d", n, len(cut.Parts), want)
			}
			for i, part := range cut.Parts {
				if want := min(impl.ChunkBytes, n-i*impl.ChunkBytes); len(part) != want {
					t.Fatalf("%d bytes: piece %d has %d bytes, not %d", n, i, len(part), want)
				}
			}
		}
	}
}

func TestDigestsOfPieces(t *testing.T) {
	for n := range impl.MaxBytes + 1 {
		data := countedBytes(n)
		var want []int64
		for piece := range slices.Chunk(data, 8) {
			want = append(want, digestByLibrary(piece))
		}
		got := impl.DigestsOf(data)
		if got.Code != impl.OK || !slices.Equal(got.List, want) {
			t.Fatalf("%d bytes: %v, not %v", n, got, want)
		}
	}
	twice := impl.DigestsOf([]byte("abcdefghabcdefgh"))
	if want := int64(0x76d2aa8d); !slices.Equal(twice.List, []int64{want, want}) {
		t.Errorf("two pieces alike: %v", twice)
	}
}

func TestNoBytes(t *testing.T) {
	for _, data := range [][]byte{nil, {}, countedBytes(9)[:0]} {
		if cut := impl.CutChunks(data); cut.Code != impl.OK || len(cut.Parts) != 0 {
			t.Errorf("CutChunks of no bytes: %v", cut)
		}
		if digests := impl.DigestsOf(data); digests.Code != impl.OK || len(digests.List) != 0 {
			t.Errorf("DigestsOf of no bytes: %v", digests)
		}
	}
}

func TestTooManyBytes(t *testing.T) {
	for _, n := range []int{impl.MaxBytes + 1, impl.MaxBytes + 2, 32, 33, 256, 1000, 1 << 16, 1<<16 + 8, 1 << 20} {
		data := countedBytes(n)
		if cut := impl.CutChunks(data); cut.Code != impl.ErrMany || len(cut.Parts) != 0 {
			t.Errorf("CutChunks of %d bytes: code %d, %d pieces", n, cut.Code, len(cut.Parts))
		}
		if digests := impl.DigestsOf(data); digests.Code != impl.ErrMany || len(digests.List) != 0 {
			t.Errorf("DigestsOf of %d bytes: code %d, %d digests", n, digests.Code, len(digests.List))
		}
	}
}

func TestHexTextKnown(t *testing.T) {
	known := []struct {
		n    int64
		text string
	}{
		{impl.DigestOf(nil), "811c9dc5"},
		{0, "00000000"},
		{1, "00000001"},
		{10, "0000000a"},
		{16, "00000010"},
		{0x01234567, "01234567"},
		{0x89abcdef, "89abcdef"},
		{0xfedcba98, "fedcba98"},
		{math.MaxUint32 - 1, "fffffffe"},
		{math.MaxUint32, "ffffffff"},
	}
	for _, k := range known {
		if got := impl.HexText(k.n); got != (impl.TextResult{Text: k.text}) {
			t.Errorf("HexText of %d: %v, not %s", k.n, got, k.text)
		}
		if got := impl.ParseHex(k.text); got != (impl.IntResult{Value: k.n}) {
			t.Errorf("ParseHex of %s: %v, not %d", k.text, got, k.n)
		}
	}
}

func TestDigestReadBackFromText(t *testing.T) {
	for _, n := range someDigests() {
		text := impl.HexText(n)
		digits := strconv.FormatInt(n, 16)
		want := strings.Repeat("0", 8-len(digits)) + digits
		if text != (impl.TextResult{Text: want}) {
			t.Fatalf("HexText of %d: %v, not %s", n, text, want)
		}
		if back := impl.ParseHex(text.Text); back != (impl.IntResult{Value: n}) {
			t.Fatalf("%d comes back from %s as %v", n, text.Text, back)
		}
	}
	for n := range 300 {
		digest := impl.DigestOf(countedBytes(n))
		if back := impl.ParseHex(impl.HexText(digest).Text); back != (impl.IntResult{Value: digest}) {
			t.Fatalf("the digest %d of %d bytes comes back as %v", digest, n, back)
		}
	}
}

func TestHexTextOfNoDigest(t *testing.T) {
	for _, n := range noDigests() {
		if got := impl.HexText(n); got != (impl.TextResult{Code: impl.ErrRange}) {
			t.Errorf("HexText of %d: %v", n, got)
		}
	}
}

func TestParseHexOfWrongTexts(t *testing.T) {
	wrong := []string{
		"", "8", "811c9dc", "811c9dc5a", "0811c9dc5", "811c9dc50", "811c9dc5811c9dc5", "0000000", "000000000",
		"811C9DC5", "811C9dc5", "ABCDEFAB", "0000000A", "F0000000",
		"+0000001", "-0000001", "+811c9dc5", "-811c9dc", "0000000-", "-00000000",
		" 811c9dc", "811c9dc ", " 811c9dc5", "811c9dc5 ", "811c 9dc5", "811c 9dc", "        ", "811c9dc5\n", "\t811c9dc",
		"0x1c9dc5", "0x811c9dc5", "811c_9dc", "1_234567", "811c.9dc", "1e3.5678", "0o000001",
		"811c9dcg", "g11c9dc5", "811c9dc/", "811c9dc:", "811c9dc`", "\x00\x00\x00\x00\x00\x00\x00\x00",
		"\xff\xff\xff\xff\xff\xff\xff\xff", "811c9dc\xb5", "811c9d\u00b2", "811c9\uff11", "\u0661\u0662\u0663\u0664",
		"\uff18\uff11\uff11\uff43\uff19\uff44\uff43\uff15", strings.Repeat("0", 1<<16), strings.Repeat("0", 1<<8+8),
	}
	for _, text := range wrong {
		if got := impl.ParseHex(text); got != (impl.IntResult{Code: impl.ErrText}) {
			t.Errorf("ParseHex of %.40q: %v", text, got)
		}
	}
}

func TestParseHexByteByByte(t *testing.T) {
	for place := range 8 {
		for b := range 256 {
			text := []byte("1234abcd")
			text[place] = byte(b)
			want := impl.IntResult{Code: impl.ErrText}
			if strings.IndexByte("0123456789abcdef", byte(b)) >= 0 {
				n, err := strconv.ParseInt(string(text), 16, 64)
				if err != nil {
					t.Fatal(err)
				}
				want = impl.IntResult{Value: n}
			}
			if got := impl.ParseHex(string(text)); got != want {
				t.Fatalf("ParseHex of %q: %v, not %v", text, got, want)
			}
		}
	}
}

func TestTextThatIsReadIsThatOfItsNumber(t *testing.T) {
	for _, text := range []string{"00000000", "ffffffff", "811c9dc5", "0000000a", "a0000000", "12345678", "deadbeef"} {
		read := impl.ParseHex(text)
		if got := impl.HexText(read.Value); read.Code != impl.OK || got != (impl.TextResult{Text: text}) {
			t.Errorf("%s is read as %v, and told as %v", text, read, got)
		}
	}
}
