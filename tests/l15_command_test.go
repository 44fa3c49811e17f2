package tests

import (
	"bytes"
	"fmt"
	"slices"
	"strings"
	"testing"

	"loop.example/g00299/impl"
)

// knownLine: a line, the Reply that it has, and what is said where it has none.
type knownLine struct {
	line  string
	reply int64
	said  string
}

// wantKnown does the lines one behind the other, and tells the store behind them.
func wantKnown(t *testing.T, x impl.Store, lines []knownLine) impl.Store {
	t.Helper()
	for _, k := range lines {
		got := wantReply(t, x, k.line, k.reply)
		if k.reply == impl.OK && got.Said != k.said {
			t.Fatalf("%q: said %q, not %q", k.line, got.Said, k.said)
		}
		x = got.Store
	}
	return x
}

// TestSnapshotsOfAStoreKnown: each command of snapshots, where it does something and where it has a Reply.
func TestSnapshotsOfAStoreKnown(t *testing.T) {
	got := wantKnown(t, impl.Store{}, []knownLine{
		{"commit a", impl.ErrNone, ""}, {"remove a", impl.ErrNone, ""}, {"lease a", impl.ErrNone, ""}, {"free a", impl.ErrNone, ""},
		{"write a /f hello", impl.ErrNone, ""}, {"mkdir a /d", impl.ErrNone, ""}, {"rm a /d", impl.ErrNone, ""},
		{"prepare a", 0, "1 0"}, {"prepare a", impl.ErrTaken, ""}, {"prepare A", impl.ErrText, ""}, {"prepare abcde", impl.ErrText, ""}, {"prepare b x", impl.ErrNone, ""}, {"prepare b a", impl.ErrState, ""},
		{"mkdir a /d", 0, "1 0"}, {"mkdir a /d", impl.ErrTaken, ""}, {"mkdir a /x/y", impl.ErrNone, ""}, {"mkdir a d", impl.ErrText, ""}, {"mkdir a /abcde", impl.ErrMany, ""},
		{"write a /d/f hello", 0, "1 1"}, {"write a /d/g hello", 0, "1 1"}, {"write a /h 12345678abcdefgh", 0, "1 3"},
		{"write a /x/f hello", impl.ErrNone, ""}, {"write a /d x", impl.ErrDir, ""}, {"write a /h/i x", impl.ErrDir, ""}, {"write a /h 1234567890123456789012345", impl.ErrMany, ""},
		{"rm a /d", impl.ErrForm, ""}, {"rm a /q", impl.ErrNone, ""}, {"rm a /d/g", 0, "1 3"}, {"rm a /d/g", impl.ErrNone, ""},
		{"commit a", 0, "1 3"}, {"commit a", impl.ErrState, ""}, {"write a /f x", impl.ErrState, ""}, {"mkdir a /e", impl.ErrState, ""}, {"rm a /h", impl.ErrState, ""},
		{"prepare b a", 0, "2 3"}, {"remove a", impl.ErrTaken, ""}, {"lease b", 0, "2 3"}, {"remove b", impl.ErrTaken, ""}, {"free b", 0, "2 3"},
		{"write b /d/f bye", 0, "2 4"}, {"rm b /h", 0, "2 4"}, {"mkdir b /h", 0, "2 4"}, {"prepare c", 0, "3 4"}, {"remove c", 0, "2 4"}, {"lease a", 0, "2 4"},
	})
	want := snapsOf(
		leasedSnap(doneSnap("a", "", dirAt("/d"), fileAt("/d/f", "hello"), fileAt("/h", "12345678abcdefgh"))),
		activeSnap("b", "a", dirAt("/d"), fileAt("/d/f", "bye"), opaqueAt("/h")),
	)
	wantAnswer(t, "the snapshots", got.Snaps, want)
	wantAnswer(t, "the chunks", got.Fetch, impl.Fetch{Chunks: chunksOf("hello", "12345678", "abcdefgh", "bye")})
	done := []string{
		"prepare a", "mkdir a /d", "write a /d/f hello", "write a /d/g hello", "write a /h 12345678abcdefgh", "rm a /d/g", "commit a", "prepare b a", "lease b", "free b",
		"write b /d/f bye", "rm b /h", "mkdir b /h", "prepare c", "remove c", "lease a",
	}
	if !bytes.Equal(got.Log.Loose, packAll(done...)) || len(got.Log.Sure) != 0 {
		t.Errorf("the log is %s, not %q", toldLog(got.Log), done)
	}
}

// TestFetchOfAStoreKnown: each command of the fetch, with digests that were worked out elsewhere.
func TestFetchOfAStoreKnown(t *testing.T) {
	got := wantKnown(t, impl.Store{}, []knownLine{
		{"lose 523fb9a9", impl.ErrNone, ""}, {"bring 523fb9a9 later", impl.ErrNone, ""}, {"bring 523fb9a9 never", impl.ErrNone, ""}, {"again", 0, "0 0"},
		{"want 523fb9a9", 0, "0 0"}, {"want 523fb9a9", 0, "0 0"}, {"want 0acc5089", 0, "0 0"}, {"want 00000000", 0, "0 0"}, {"want ffffffff", 0, "0 0"},
		{"bring 523fb9a9 never", 0, "0 0"}, {"lose 523fb9a9", 0, "0 0"}, {"bring 523fb9a9 later", 0, "0 1"}, {"bring 523fb9a9 later", impl.ErrNone, ""}, {"want 523fb9a9", 0, "0 1"},
		{"lose 0acc5089", 0, "0 1"}, {"lose 0acc5089", 0, "0 1"}, {"bring 0acc5089 neverever", 0, "0 1"}, {"want 0acc5089", impl.ErrAway, ""}, {"lose 0acc5089", impl.ErrNone, ""}, {"bring 0acc5089 never", impl.ErrNone, ""},
		{"again", 0, "0 1"}, {"want 0acc5089", 0, "0 1"}, {"bring 00000000 korcaajh", 0, "0 2"}, {"bring ffffffff etzfbcoy", 0, "0 3"}, {"lose 0acc5089", 0, "0 3"},
		{"want 4f9a2cab", 0, "0 3"}, {"lose 4f9a2cab", 0, "0 3"}, {"lose 4f9a2cab", 0, "0 3"}, {"lose 4f9a2cab", 0, "0 3"},
	})
	wantAnswer(t, "the fetch", got.Fetch, impl.Fetch{Wants: []impl.Want{{Digest: 181162121, Tries: 1}}, Failed: []int64{1335504043}, Chunks: chunksOf("later", "korcaajh", "etzfbcoy")})
}

// TestCollectionOfAStoreKnown: what nobody holds goes with its chunks, but for those that another one still has.
func TestCollectionOfAStoreKnown(t *testing.T) {
	x := wantKnown(t, impl.Store{}, []knownLine{
		{"prepare a", 0, "1 0"}, {"write a /f 12345678", 0, "1 1"}, {"write a /g abcdefghhello", 0, "1 3"}, {"commit a", 0, "1 3"},
		{"prepare b", 0, "2 3"}, {"write b /f abcdefgh", 0, "2 3"}, {"commit b", 0, "2 3"}, {"lease b", 0, "2 3"}, {"want 523fb9a9", 0, "2 3"}, {"bring 523fb9a9 later", 0, "2 4"},
		{"want 0acc5089", 0, "2 4"}, {"want fd0d5087", 0, "2 4"}, {"lose fd0d5087", 0, "2 4"}, {"lose fd0d5087", 0, "2 4"}, {"lose fd0d5087", 0, "2 4"},
	})
	left := wantKnown(t, x, []knownLine{{"collect", 0, "1 1"}, {"collect", 0, "1 1"}})
	wantAnswer(t, "what is left", left.Snaps, snapsOf(leasedSnap(doneSnap("b", "", fileAt("/f", "abcdefgh")))))
	wantAnswer(t, "the fetch", left.Fetch, impl.Fetch{Wants: []impl.Want{{Digest: 181162121}}, Failed: []int64{4245508231}, Chunks: chunksOf("abcdefgh")})
	wantKnown(t, left, []knownLine{{"free b", 0, "1 1"}, {"collect", 0, "0 0"}})
	wantKnown(t, x, []knownLine{{"lease a", 0, "2 4"}, {"collect", 0, "2 3"}})
	wantKnown(t, x, []knownLine{{"prepare c a", 0, "3 4"}, {"collect", 0, "3 3"}, {"remove c", 0, "2 3"}, {"collect", 0, "1 1"}})
	wantKnown(t, x, []knownLine{{"free b", 0, "2 4"}, {"collect", 0, "0 0"}})
	wantKnown(t, impl.Store{}, []knownLine{{"prepare a", 0, "1 0"}, {"write a /f hello", 0, "1 1"}, {"write a /f bye", 0, "1 2"}, {"collect", 0, "1 1"}, {"rm a /f", 0, "1 1"}, {"collect", 0, "1 0"}})
}

// commandsToAsk: one line of each command that is done in the store that is told with them.
func commandsToAsk() (impl.Store, []string) {
	x := storeOf("prepare a", "mkdir a /d", "write a /d/f hello", "commit a", "prepare b a", "lease b", "want "+hexOf("later"), "want "+hexOf("never"), "prepare old")
	return x, []string{
		"prepare c", "prepare c a", "commit b", "remove old", "lease a", "free b", "write b /g bye", "mkdir b /e", "rm b /d/f", "want " + hexOf("x"), "bring " + hexOf("later") + " later", "lose " + hexOf("never"), "again", "collect",
	}
}

// TestBlanksBetweenWords: however many there are, the command is the same, and the log has the line as it was told.
func TestBlanksBetweenWords(t *testing.T) {
	x, lines := commandsToAsk()
	for _, line := range lines {
		plain := wantReply(t, x, line, impl.OK)
		words := strings.Split(line, " ")
		for _, other := range []string{
			" " + line, line + " ", "  " + line + "   ", strings.Join(words, "  "), strings.Join(words, "     "), "   " + strings.Join(words, "   ") + "   ",
			strings.Repeat(" ", 60-len(line)) + line, line + strings.Repeat(" ", 60-len(line)),
		} {
			got := wantReply(t, x, other, impl.OK)
			if !impl.SameStores(got.Store, plain.Store) || got.Said != plain.Said {
				t.Fatalf("%q: %s, not as %q", other, toldStoreResult(got), line)
			}
			if names := impl.ReadLines(got.Store.Log.Loose).Names; names[len(names)-1] != other {
				t.Fatalf("%q stands in the log as %q", other, names[len(names)-1])
			}
		}
	}
}

// TestWordsTooFewOrTooMany: each command without its last word, and with one more.
func TestWordsTooFewOrTooMany(t *testing.T) {
	x, lines := commandsToAsk()
	for _, line := range lines {
		words := strings.Split(line, " ")
		less, more := strings.Join(words[:len(words)-1], " "), line+" a"
		if line != "prepare c a" {
			if less == "" {
				less = " "
			}
			wantCodeOfLine(t, x, less, impl.ErrText)
			wantCodeOfLine(t, x, less+" ", impl.ErrText)
		}
		if line != "prepare c" {
			wantCodeOfLine(t, x, more, impl.ErrText)
			wantCodeOfLine(t, x, more+" a a", impl.ErrText)
		}
		if len(words) > 1 {
			wantCodeOfLine(t, x, words[0], impl.ErrText)
		}
	}
	for _, line := range []string{"prepare", "prepare c a a", "write b /g", "write b /g bye bye", "bring " + hexOf("later"), "again again", "collect collect"} {
		wantCodeOfLine(t, x, line, impl.ErrText)
	}
}

// TestWhatIsNoCommand: other words, a command in other letters, cut short, longer, without its blanks, and with other bytes for them.
func TestWhatIsNoCommand(t *testing.T) {
	x, lines := commandsToAsk()
	no := []string{
		" ", "   ", strings.Repeat(" ", 60), "a", "~", "wink", "wink a", "wink a b c", "base", "show", "sync", "crash", "ls b /", "cat b /d/f", "exit", "-", "prepare;commit a", "#", "copy b /d/f", "umount b", "unlease b", "add c", "add c a x",
		"lease b true", "lease b false", "collect a", "forget", "ask " + hexOf("x"), "hear " + hexOf("later") + " later", "remove a b", "commit", "mkdir b", "rm b", "rmdir b /d", "touch b /f", "write", "b write /g x", "a", "prepare prepare prepare prepare",
	}
	for _, line := range lines {
		words := strings.Split(line, " ")
		behind := strings.Join(words[1:], " ")
		for _, word := range []string{strings.ToUpper(words[0]), strings.ToUpper(words[0][:1]) + words[0][1:], words[0][:len(words[0])-1], words[0] + "s", words[0][1:], "x" + words[0], words[0] + words[0], words[0] + "-", "\"" + words[0] + "\""} {
			no = append(no, strings.TrimSpace(word+" "+behind))
		}
		if len(words) > 1 {
			no = append(no, words[0]+words[1]+" "+strings.Join(words[2:], " "), strings.Join(words, "-"), strings.Join(words, ","))
		}
	}
	for _, line := range no {
		wantCodeOfLine(t, x, line, impl.ErrText)
		wantCodeOfLine(t, impl.Store{}, line, impl.ErrText)
	}
	for _, line := range lines {
		words := strings.Split(line, " ")
		if len(words) > 1 {
			for _, blank := range []string{"\t", "\n", "\u00a0", "\x00", "\v", "\r"} {
				wantCodeOfLine(t, x, strings.Join(words, blank), impl.ErrText)
			}
		}
	}
}

// TestWordsThatAreNoName: a word that is no name, or no path, is still of a command, which has a Reply for it.
func TestWordsThatAreNoName(t *testing.T) {
	x, _ := commandsToAsk()
	for _, no := range []string{"A", "abcde", "a1", "-", "/a", "b.", "~", "prepare", "a,b"} {
		wantReply(t, x, "prepare "+no, impl.ErrText)
		wantReply(t, x, "prepare c "+no, impl.ErrNone)
		wantReply(t, x, "prepare "+no+" a", impl.ErrText)
		wantReply(t, x, "prepare a "+no, impl.ErrTaken)
		for _, line := range []string{"commit " + no, "remove " + no, "lease " + no, "free " + no, "write " + no + " /f x", "mkdir " + no + " /e", "rm " + no + " /d"} {
			wantReply(t, x, line, impl.ErrNone)
		}
	}
	for path, reply := range map[string]int64{"d": impl.ErrText, "/": impl.ErrText, "/d/": impl.ErrText, "//d": impl.ErrText, "/D": impl.ErrText, "/d.": impl.ErrText, "/..": impl.ErrText, "/abcde": impl.ErrMany, "/a/b/c/d": impl.ErrMany} {
		for _, line := range []string{"write b " + path + " x", "mkdir b " + path, "rm b " + path} {
			wantReply(t, x, line, reply)
		}
	}
}

// TestDigestsThatCannotBeRead: no command, whatever stands behind them.
func TestDigestsThatCannotBeRead(t *testing.T) {
	x, _ := commandsToAsk()
	right := hexOf("later")
	no := []string{"x", "-", "0", right[:7], right + "0", "0" + right, "0x" + right, strings.ToUpper(right), "523FB9A9", "523fb9aA", "523fb9ag", "g23fb9a9", "-23fb9a9", "+23fb9a9", "523fb_a9", "1379908009", "523fb9a.", "523fb,a9", "........", "0000000G"}
	for i := range 8 {
		for _, b := range []byte{'g', 'G', 'A', 'F', '/', ':', '`', '@'} {
			wrong := []byte(right)
			wrong[i] = b
			no = append(no, string(wrong))
		}
	}
	for _, word := range no {
		for _, line := range []string{"want " + word, "lose " + word, "bring " + word + " later", "bring " + word + " x", "  want   " + word + "  "} {
			wantCodeOfLine(t, x, line, impl.ErrText)
			wantCodeOfLine(t, impl.Store{}, line, impl.ErrText)
		}
	}
	wantCodeOfLine(t, x, "bring later "+right, impl.ErrText)
}

func TestPrepareWithAndWithoutAParent(t *testing.T) {
	x := storeOf("prepare a", "write a /f hello", "commit a", "prepare b a", "commit b", "prepare c b", "commit c", "prepare d c", "commit d", "prepare e")
	for line, parent := range map[string]string{"prepare n": "", "prepare n a": "a", "prepare n b": "b", "prepare n c": "c"} {
		got := wantReply(t, x, line, impl.OK)
		if s := snapsByName(got.Store.Snaps)["n"]; told(s) != told(activeSnap("n", parent)) || got.Said != "6 1" {
			t.Errorf("%q: %s, said %q", line, told(s), got.Said)
		}
	}
	wantReply(t, x, "prepare n d", impl.ErrMany)
	wantReply(t, x, "prepare n e", impl.ErrState)
	wantReply(t, x, "prepare n n", impl.ErrNone)
	wantReply(t, x, "prepare a a", impl.ErrTaken)
	full := storeBehind(x, "prepare f", "prepare g", "prepare h", "prepare i", "prepare j")
	wantReply(t, full, "prepare n", impl.ErrMany)
	wantReply(t, full, "prepare n a", impl.ErrMany)
	wantReply(t, full, "prepare n q", impl.ErrNone)
}

// wantFile asks that a file is read as what was written, and that its chunks are there.
func wantFile(t *testing.T, x impl.Store, name string, path string, data string) {
	t.Helper()
	read := impl.ReadOver(impl.ChainOf(x.Snaps, name).Layers, x.Fetch.Chunks, path)
	if read.Code != impl.OK || string(read.Bytes) != data {
		t.Fatalf("%s of %s is read as %q, with the code %d, not as %q", path, name, read.Bytes, read.Code, data)
	}
	for _, c := range chunksFor(data) {
		if held := impl.ChunkFor(x.Fetch.Chunks, c.Digest); held.Code != impl.OK {
			t.Fatalf("of %q the chunk %q is not there", data, c.Bytes)
		}
	}
}

// TestWriteByLength: files of each length, of one chunk and of some; more bytes than a file may have are a Reply.
func TestWriteByLength(t *testing.T) {
	letters := "abcdefghijklmnopqrstuvwxyz0123456789"
	for n := 1; n <= 36; n++ {
		data := letters[:n]
		line := "write a /f " + data
		if n > 24 {
			got := wantReply(t, storeOf("prepare a"), line, impl.ErrMany)
			wantAnswer(t, "no chunk", got.Store.Fetch, impl.Fetch{})
			continue
		}
		got := wantReply(t, storeOf("prepare a"), line, impl.OK)
		wantFile(t, got.Store, "a", "/f", data)
		wantAnswer(t, "the chunks", got.Store.Fetch, impl.Fetch{Chunks: chunksFor(data)})
		if got.Said != fmt.Sprint("1 ", (n+7)/8) {
			t.Errorf("%d bytes: said %q", n, got.Said)
		}
	}
}

// TestWriteOfChunksTwice: a chunk that stands in the file twice, in another one, or that was brought, is there once.
func TestWriteOfChunksTwice(t *testing.T) {
	one, two := "12345678", "abcdefgh"
	for _, k := range []struct {
		ahead []string
		data  string
		said  string
	}{
		{nil, one + one, "1 1"}, {nil, one + one + one, "1 1"}, {nil, one + two + one, "1 2"}, {nil, "aa", "1 1"},
		{[]string{"write a /g " + one}, one, "1 1"}, {[]string{"write a /g " + one}, one + two, "1 2"}, {[]string{"write a /g " + one}, two + one + one, "1 2"}, {[]string{"write a /f " + one}, two, "1 2"},
		{[]string{"write a /g " + one + two}, two + one, "1 2"}, {[]string{"want " + hexOf(one), "bring " + hexOf(one) + " " + one}, one, "1 1"}, {[]string{"want " + hexOf(two), "bring " + hexOf(two) + " " + two}, one + two, "1 2"},
	} {
		got := wantReply(t, storeBehind(storeOf("prepare a"), k.ahead...), "write a /f "+k.data, impl.OK)
		wantFile(t, got.Store, "a", "/f", k.data)
		if got.Said != k.said {
			t.Errorf("%q behind %q: said %q, not %q", k.data, k.ahead, got.Said, k.said)
		}
	}
}

// awaited: a store with an active snapshot, that wants the texts, or in which they failed.
func awaited(tries int, texts ...string) impl.Store {
	x := storeOf("prepare a", "write a /g there")
	for _, text := range texts {
		x = storeBehind(x, "want "+hexOf(text))
		for range tries {
			x = storeBehind(x, "lose "+hexOf(text))
		}
	}
	return x
}

// TestWriteOfWhatIsAwaited: a chunk of the file is wanted, or has failed, be it the first, the last or one between: then nothing.
func TestWriteOfWhatIsAwaited(t *testing.T) {
	parts := []string{"12345678", "abcdefgh", "xyz"}
	data := strings.Join(parts, "")
	for tries := range 4 {
		for _, part := range parts {
			x := awaited(tries, part)
			got := wantReply(t, x, "write a /f "+data, impl.ErrMany)
			if impl.EntryAt(got.Store.Snaps[0].Layer, "/f").Code != impl.ErrNone || len(got.Store.Fetch.Chunks) != 1 {
				t.Fatalf("%q is awaited: %s", part, toldStoreResult(got))
			}
			wantReply(t, x, "write a /f "+part, impl.ErrMany)
			wantReply(t, x, "write a /g "+part, impl.ErrMany)
			wantReply(t, x, "write a /f other", impl.OK)
			wantReply(t, x, "write a /f there", impl.OK)
			wantReply(t, x, "write q /f "+data, impl.ErrNone)
			wantReply(t, x, "write a /q/f "+data, impl.ErrNone)
			if tries == 3 {
				wantReply(t, storeBehind(x, "again"), "write a /f "+data, impl.OK)
			} else {
				come := wantReply(t, storeBehind(x, "bring "+hexOf(part)+" "+part), "write a /f "+data, impl.OK)
				wantFile(t, come.Store, "a", "/f", data)
			}
		}
		wantReply(t, awaited(tries, parts...), "write a /f "+data, impl.ErrMany)
		wantReply(t, awaited(tries, "else", "more"), "write a /f "+data, impl.OK)
	}
}

// storeWithChunks: an active snapshot, and so many chunks, none of which is of a file.
func storeWithChunks(n int) impl.Store {
	x := storeOf("prepare a")
	x.Fetch.Chunks = chunksOf(textsToFetch()[60 : 60+n]...)
	return x
}

// TestWriteUntilThereAreTooMany: just as many chunks as there may be, and one more: then nothing.
func TestWriteUntilThereAreTooMany(t *testing.T) {
	one, two, three := "12345678", "abcdefgh", "xyz"
	for n := 30; n <= 40; n++ {
		for _, k := range []struct {
			data string
			more int
		}{
			{one, 1}, {three, 1}, {one + two, 2}, {one + two + three, 3}, {one + one, 1}, {one + one + one, 1}, {one + two + one, 2}, {two + two + three, 2},
		} {
			x := storeWithChunks(n)
			if n+k.more > 40 {
				got := wantReply(t, x, "write a /f "+k.data, impl.ErrMany)
				if len(got.Store.Snaps[0].Layer) != 0 || len(got.Store.Fetch.Chunks) != n {
					t.Fatalf("%d chunks and %q: %s", n, k.data, toldStoreResult(got))
				}
				continue
			}
			got := wantReply(t, x, "write a /f "+k.data, impl.OK)
			wantFile(t, got.Store, "a", "/f", k.data)
			if got.Said != fmt.Sprint("1 ", n+k.more) {
				t.Fatalf("%d chunks and %q: said %q", n, k.data, got.Said)
			}
			if full := got.Store; n+k.more == 40 {
				wantReply(t, full, "write a /g "+k.data, impl.OK)
				wantReply(t, full, "write a /f "+k.data, impl.OK)
				wantReply(t, full, "write a /g new", impl.ErrMany)
				wantReply(t, full, "write a /g "+k.data[:8*((len(k.data)-1)/8)]+"new", impl.ErrMany)
				wantReply(t, full, "mkdir a /g", impl.OK)
				wantReply(t, full, "rm a /f", impl.OK)
			}
		}
	}
}

// TestWriteWithAReplyPutsNothing: what WriteSnap has a Reply for puts no chunk, and its Reply comes ahead of that of the chunks.
func TestWriteWithAReplyPutsNothing(t *testing.T) {
	full := storeOf("prepare a", "mkdir a /d", "write a /g there", "prepare b", "write b /f there", "commit b", "prepare c")
	for i := range 12 {
		full = storeBehind(full, fmt.Sprintf("mkdir c /%c", 'a'+i))
	}
	awaits := storeBehind(full, "want "+hexOf("new"), "want "+hexOf("bad"), "lose "+hexOf("bad"), "lose "+hexOf("bad"), "lose "+hexOf("bad"))
	crowded := full
	crowded.Fetch.Chunks = chunksOf(append(slices.Clone(textsToFetch()[60:99]), "there")...)
	for line, reply := range map[string]int64{
		"write q /f ": impl.ErrNone, "write b /g ": impl.ErrState, "write a f ": impl.ErrText, "write a /abcde ": impl.ErrMany, "write a /q/f ": impl.ErrNone, "write a /g/f ": impl.ErrDir, "write a /d ": impl.ErrDir, "write c /z ": impl.ErrMany,
	} {
		for _, x := range []impl.Store{full, awaits, crowded} {
			for _, data := range []string{"new", "bad", "there", "newer"} {
				got := wantReply(t, x, line+data, reply)
				wantAnswer(t, "the chunks", got.Store.Fetch, x.Fetch)
			}
		}
	}
	for _, line := range []string{"write a /f new", "write a /g new", "write a /f bad"} {
		wantReply(t, full, line, impl.OK)
		wantReply(t, awaits, line, impl.ErrMany)
		wantReply(t, crowded, line, impl.ErrMany)
	}
}

// TestWriteOfAnotherTextOfTheDigest: bytes that are there are not turned by others of their digest.
func TestWriteOfAnotherTextOfTheDigest(t *testing.T) {
	x := storeOf("prepare a", "write a /f "+firstOfTwo)
	got := wantReply(t, x, "write a /g "+secondOfTwo, impl.OK)
	wantAnswer(t, "the chunks", got.Store.Fetch.Chunks, chunksOf(firstOfTwo))
	wanted := storeOf("prepare a", "want "+hexOf(firstOfTwo))
	wantReply(t, wanted, "write a /g "+secondOfTwo, impl.ErrMany)
	brought := wantReply(t, wanted, "bring "+hexOf(firstOfTwo)+" "+secondOfTwo, impl.OK)
	wantAnswer(t, "the chunks", brought.Store.Fetch.Chunks, chunksOf(secondOfTwo))
}

// TestJustWriteAndBringPutChunks: whatever else is done, no chunk comes.
func TestJustWriteAndBringPutChunks(t *testing.T) {
	for _, x := range rightStores() {
		for _, line := range linesToAsk(x) {
			word, _, _ := strings.Cut(line, " ")
			got := impl.DoLine(x, line)
			more := got.Code == impl.OK && told(got.Store.Fetch.Chunks) != told(x.Fetch.Chunks)
			if more && word != "write" && word != "bring" && word != "collect" {
				t.Fatalf("%q turns the chunks of %s", line, toldStore(x))
			}
			if more && word == "collect" && len(got.Store.Fetch.Chunks) >= len(x.Fetch.Chunks) {
				t.Fatalf("%q puts chunks to %s", line, toldStore(x))
			}
		}
	}
}

// TestFetchAndSnapshotsStayApart: but for write and collect, a command turns the snapshots or the fetch, and never both.
func TestFetchAndSnapshotsStayApart(t *testing.T) {
	ofFetch := map[string]bool{"want": true, "bring": true, "lose": true, "again": true}
	for _, x := range rightStores() {
		for _, line := range linesToAsk(x) {
			word, _, _ := strings.Cut(line, " ")
			got := impl.DoLine(x, line)
			if got.Code != impl.OK || word == "write" || word == "collect" {
				continue
			}
			if ofFetch[word] && told(got.Store.Snaps) != told(x.Snaps) || !ofFetch[word] && told(got.Store.Fetch) != told(x.Fetch) {
				t.Fatalf("%q turns of %s what is not its own", line, toldStore(x))
			}
		}
	}
}

// TestBringEdges: bytes of another digest, what is not wanted, what failed, what is there, and the last try.
func TestBringEdges(t *testing.T) {
	later := hexOf("later")
	x := storeOf("want "+later, "want "+hexOf("other"))
	for _, data := range []string{"never", "late", "laterr", "Later", "other", "123456789", strings.Repeat("z", 40)} {
		got := wantReply(t, x, "bring "+later+" "+data, impl.OK)
		wantAnswer(t, "a try less", got.Store.Fetch.Wants, []impl.Want{{Digest: impl.DigestOf([]byte("later")), Tries: 1}, {Digest: impl.DigestOf([]byte("other"))}})
	}
	for _, text := range []string{"x", "never"} {
		wantReply(t, x, "bring "+hexOf(text)+" "+text, impl.ErrNone)
		wantReply(t, x, "bring "+hexOf(text)+" later", impl.ErrNone)
		wantReply(t, x, "lose "+hexOf(text), impl.ErrNone)
	}
	last := storeBehind(x, "lose "+later, "bring "+later+" wrong")
	wantAnswer(t, "the last try comes right", wantReply(t, last, "bring "+later+" later", impl.OK).Store.Fetch.Chunks, chunksOf("later"))
	for _, line := range []string{"bring " + later + " wrong", "lose " + later} {
		gone := wantReply(t, last, line, impl.OK)
		wantAnswer(t, "the last try", gone.Store.Fetch, impl.Fetch{Wants: wantsOf([]int64{0}, "other"), Failed: digestsOfTexts("later")})
		wantReply(t, gone.Store, "bring "+later+" later", impl.ErrNone)
		wantReply(t, gone.Store, "want "+later, impl.ErrAway)
		wantReply(t, storeBehind(gone.Store, "again"), "want "+later, impl.OK)
	}
	crowded := storeWithChunks(40)
	crowded.Fetch.Wants = wantsOf([]int64{0}, "later")
	wantReply(t, crowded, "bring "+later+" later", impl.ErrMany)
	wantReply(t, crowded, "bring "+later+" wrong", impl.OK)
	failures := impl.Store{Fetch: impl.Fetch{Wants: wantsOf([]int64{2}, "later"), Failed: digestsOfTexts(textsToFetch()[20:60]...)}}
	wantReply(t, failures, "lose "+later, impl.ErrMany)
	wantReply(t, failures, "bring "+later+" wrong", impl.ErrMany)
	wantReply(t, failures, "bring "+later+" later", impl.OK)
	wishes := impl.Store{Fetch: impl.Fetch{Wants: wantsOf([]int64{0, 1}, textsToFetch()[:12]...)}}
	wantReply(t, wishes, "want "+later, impl.ErrMany)
	wantReply(t, wishes, fmt.Sprintf("want %08x", wishes.Fetch.Wants[11].Digest), impl.OK)
}

// TestLineThatJustFits: in each log the line that fills it, and one that is longer by a byte; a Reply, too, needs the room, and what is no command does not come to be asked for it.
func TestLineThatJustFits(t *testing.T) {
	x, lines := commandsToAsk()
	for _, line := range append(lines, "commit q", "rm b /q", "lose "+hexOf("q")) {
		reply := impl.DoLine(x, line).Reply
		for _, size := range []int{2000 - len(line) - 5, 2000 - len(line) - 6, 2000 - len(line) - 4, 2000 - len(line) - 3, 1994, 2000} {
			taken := linesOfSize(size)
			for _, at := range []int{0, 4, len(taken)} {
				full := x
				full.Log = logOf(taken[:at], taken[at:])
				got := wantDone(t, full, line)
				if fits := size+len(line)+5 <= 2000; fits && (got.Code != impl.OK || got.Reply != reply) || !fits && got.Code != impl.ErrMany {
					t.Fatalf("%q in a log of %d bytes: %s", line, size, toldStoreResult(got))
				}
				wantCodeOfLine(t, full, "wink", impl.ErrText)
				wantCodeOfLine(t, full, "want "+line[:1], impl.ErrText)
			}
		}
	}
}

// TestSaidInDigits: numbers of one digit and of two, of snapshots and of chunks.
func TestSaidInDigits(t *testing.T) {
	x := impl.NewStore(nil).Store
	for i := range 10 {
		got := wantReply(t, x, fmt.Sprintf("prepare s%c", 'a'+i), impl.OK)
		if want := []string{"1 0", "2 0", "3 0", "4 0", "5 0", "6 0", "7 0", "8 0", "9 0", "10 0"}[i]; got.Said != want {
			t.Errorf("%d snapshots: said %q", i+1, got.Said)
		}
		x = got.Store
	}
	for i := range 12 {
		got := wantReply(t, x, fmt.Sprintf("write sa /%c text%02d", 'a'+i, i), impl.OK)
		if want := fmt.Sprint("10 ", i+1); got.Said != want {
			t.Errorf("%d chunks: said %q", i+1, got.Said)
		}
		x = got.Store
	}
	for n := range 41 {
		for _, snaps := range []int{0, 1, 9, 10} {
			held := impl.Store{Fetch: impl.Fetch{Chunks: chunksOf(textsToFetch()[60 : 60+n]...)}, Snaps: x.Snaps[:snaps]}
			if got := wantReply(t, held, "again", impl.OK); got.Said != fmt.Sprintf("%d %d", snaps, n) {
				t.Errorf("%d snapshots and %d chunks: said %q", snaps, n, got.Said)
			}
		}
	}
}
