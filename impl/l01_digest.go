package impl

import (
	"slices"
	"strings"
)

const OK = 0
const ErrForm = 1
const ErrMany = 2
const ErrRange = 3
const ErrNone = 4
const ErrText = 5
const ErrSum = 6
const ErrTaken = 7
const ErrAway = 8
const ErrDir = 9
const ErrState = 10
const ChunkBytes = 8
const MaxBytes = 24

const digestStart uint32 = 2166136261
const digestFactor uint32 = 16777619
const largestDigest = 1<<32 - 1
const hexDigits = "0123456789abcdef"
const hexLength = 8

type IntResult struct {
	Code  int64
	Value int64
}
type IntsResult struct {
	Code int64
	List []int64
}
type BytesResult struct {
	Code  int64
	Bytes []byte
}
type TextResult struct {
	Code int64
	Text string
}
type PartsResult struct {
	Code  int64
	Parts [][]byte
}

// DigestOf counts in uint32 because a digest goes round at 2^32, as that kind does by itself.
func DigestOf(data []byte) int64 {
	h := digestStart
	for _, b := range data {
		h = (h ^ uint32(b)) * digestFactor
	}
	return int64(h ^ (uint32(len(data)) << 16))
}

func IsDigest(n int64) bool {
	return 0 <= n && n <= largestDigest
}

func CutChunks(data []byte) PartsResult {
	if len(data) > MaxBytes {
		return PartsResult{Code: ErrMany}
	}
	var parts [][]byte
	for at := 0; at < len(data); at += ChunkBytes {
		end := min(at+ChunkBytes, len(data))
		// A piece cut out of data, or out of one copy of it, would share memory.
		parts = append(parts, slices.Clone(data[at:end]))
	}
	return PartsResult{Parts: parts}
}

func DigestsOf(data []byte) IntsResult {
	cut := CutChunks(data)
	if cut.Code != OK {
		return IntsResult{Code: cut.Code}
	}
	var list []int64
	for _, part := range cut.Parts {
		list = append(list, DigestOf(part))
	}
	return IntsResult{List: list}
}

func HexText(n int64) TextResult {
	if !IsDigest(n) {
		return TextResult{Code: ErrRange}
	}
	h := uint32(n)
	var text [hexLength]byte
	for i := range text {
		text[i] = hexDigits[h>>28]
		h <<= 4
	}
	return TextResult{Text: string(text[:])}
}

// ParseHex reads digit by digit, as strconv would take A to F too.
func ParseHex(text string) IntResult {
	if len(text) != hexLength {
		return IntResult{Code: ErrText}
	}
	var h uint32
	for i := range len(text) {
		digit := strings.IndexByte(hexDigits, text[i])
		if digit < 0 {
			return IntResult{Code: ErrText}
		}
		h = h<<4 | uint32(digit)
	}
	return IntResult{Value: int64(h)}
}
