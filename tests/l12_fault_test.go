package tests

import (
	"fmt"
	"math"
	"slices"
	"strings"
	"testing"

	"loop.example/g00299/impl"
)

// snapFault: how a list with nothing wrong comes to have one fault, the field that this turns, and where the document asks for it.
type snapFault struct {
	name  string
	field string
	rank  [3]int
	code  int64
	turn  func(list []impl.Snap) []impl.Snap
}

// snapsToTurn: three snapshots without a parent, and what they may not have as one: a chain of four, and an active one.
// The three stand from the place on that is told, ahead of the others or behind them.
func snapsToTurn(behind bool) ([]impl.Snap, int) {
	three := snapsOf(doneSnap("mb", "", fullLayer(3)...), doneSnap("mcmc", ""), leasedSnap(doneSnap("md", "")))
	if behind {
		return append(snapsOf(doneSnap("c", "d"), doneSnap("d", "e"), doneSnap("e", "f"), doneSnap("f", ""), activeSnap("g", "")), three...), 5
	}
	return append(three, doneSnap("q", "", fullLayer(2)...), doneSnap("r", "q"), doneSnap("s", "r"), doneSnap("t", "s"), activeSnap("u", "")), 0
}

// namesThatAreNone: too long, too short, or with a byte that is not a to z.
func namesThatAreNone() []string {
	return []string{"", "abcde", "m ", "M", "mA", "m1", "m-", "/m", "`", "{", "\x00", "é", "m\n", strings.Repeat("m", 256), strings.Repeat("m", 257)}
}

func kindsThatAreNone(most int64) []int64 {
	return []int64{0, -1, most + 1, most + 2, math.MinInt64, math.MaxInt64, 1<<32 + 1, 256 + 1, -most, 1 << 8, 1 << 32}
}

// faultsOfSnap: those of one of the three, which is at the place of the list.
func faultsOfSnap(behind bool, one int) []snapFault {
	_, first := snapsToTurn(behind)
	place := first + one
	var out []snapFault
	add := func(name string, field string, rule int, asked int, code int64, turn func(s *impl.Snap, list []impl.Snap)) {
		out = append(out, snapFault{
			fmt.Sprintf("%d %s", place, name), fmt.Sprint(field, place), [3]int{rule, place, asked}, code,
			func(list []impl.Snap) []impl.Snap { turn(&list[place], list); return list },
		})
	}
	for _, no := range namesThatAreNone() {
		add("is called "+shortText(no), "name", 1, 0, impl.ErrText, func(s *impl.Snap, _ []impl.Snap) { s.Name = no })
	}
	for _, no := range kindsThatAreNone(2) {
		add(fmt.Sprint("has the kind ", no), "kind", 1, 1, impl.ErrForm, func(s *impl.Snap, _ []impl.Snap) { s.Kind = no })
	}
	if place > 0 {
		add("is called like the one ahead", "name", 1, 1, impl.ErrForm, func(s *impl.Snap, list []impl.Snap) { s.Name = list[place-1].Name })
		add("is called a", "name", 1, 1, impl.ErrForm, func(s *impl.Snap, _ []impl.Snap) { s.Name = "a" })
		add("is called like the beginning of the one ahead", "name", 1, 1, impl.ErrForm, func(s *impl.Snap, list []impl.Snap) { s.Name = list[place-1].Name[:1] })
	}
	for i, f := range faultyLists() {
		if i%4 == one {
			add("has "+f.name, "layer", 1, 2, f.code, func(s *impl.Snap, _ []impl.Snap) { s.Layer = f.layer })
		}
	}
	for _, no := range []string{"x", "m", "mbx", "abcde", " ", "MB"} {
		add("has the parent "+no, "parent", 2, 0, impl.ErrNone, func(s *impl.Snap, _ []impl.Snap) { s.Parent = no })
	}
	active, fourth := map[bool]string{false: "u", true: "g"}[behind], map[bool]string{false: "t", true: "c"}[behind]
	add("has an active parent", "parent", 2, 1, impl.ErrState, func(s *impl.Snap, _ []impl.Snap) { s.Parent = active })
	add("is the fifth", "parent", 2, 2, impl.ErrMany, func(s *impl.Snap, _ []impl.Snap) { s.Parent = fourth })
	add("is its own parent", "parent", 2, 2, impl.ErrMany, func(s *impl.Snap, _ []impl.Snap) { s.Parent = s.Name })
	return out
}

func faultsOfSnaps(behind bool) []snapFault {
	many := func(n int) snapFault {
		return snapFault{fmt.Sprint(n, " snapshots"), "number", [3]int{0, 0, 0}, impl.ErrMany, func(list []impl.Snap) []impl.Snap {
			for i := len(list); i < n; i++ {
				list = append(list, doneSnap(string(rune('v'+i/26))+string(rune('a'+i%26)), ""))
			}
			return list
		}}
	}
	return slices.Concat([]snapFault{many(11), many(12), many(60)}, faultsOfSnap(behind, 0), faultsOfSnap(behind, 1), faultsOfSnap(behind, 2))
}

// faultySnaps: a list with a fault, and the code of the first one in the document's order.
type faultySnaps struct {
	name string
	list []impl.Snap
	code int64
}

// withSnapFaults turns the fault that is asked first last, so that the others still find what they are held against.
func withSnapFaults(behind bool, faults ...snapFault) faultySnaps {
	slices.SortStableFunc(faults, func(a, b snapFault) int { return slices.Compare(a.rank[:], b.rank[:]) })
	list, _ := snapsToTurn(behind)
	out := faultySnaps{list: slices.Clone(list), code: faults[0].code}
	for _, one := range slices.Backward(faults) {
		out.list = one.turn(out.list)
		out.name = one.name + ", " + out.name
	}
	return out
}

func faultySnapLists() []faultySnaps {
	var lists []faultySnaps
	for _, behind := range []bool{false, true} {
		for _, one := range faultsOfSnaps(behind) {
			lists = append(lists, withSnapFaults(behind, one))
		}
	}
	return append(lists, knownFaultySnaps()...)
}

func wantSnapsFault(t *testing.T, f faultySnaps) {
	t.Helper()
	if code := impl.SnapsFault(f.list); code != f.code {
		t.Errorf("%s: %d, not %d", f.name, code, f.code)
	}
	if code := snapsFaultByHand(f.list); code != f.code {
		t.Errorf("%s: the test itself says %d and %d", f.name, code, f.code)
	}
}

func TestSnapsFault(t *testing.T) {
	for _, behind := range []bool{false, true} {
		list, _ := snapsToTurn(behind)
		if code := impl.SnapsFault(list); code != impl.OK {
			t.Fatalf("the list to be turned has the fault %d", code)
		}
	}
	for _, f := range faultySnapLists() {
		wantSnapsFault(t, f)
	}
}

// TestTwoFaultsOfSnaps: the document's order tells which one is the answer, whatever the other one is.
func TestTwoFaultsOfSnaps(t *testing.T) {
	for _, behind := range []bool{false, true} {
		all := faultsOfSnaps(behind)
		for i, one := range all {
			for _, other := range all[i+1:] {
				if one.field != other.field {
					wantSnapsFault(t, withSnapFaults(behind, one, other))
				}
			}
		}
	}
}

func knownFaultySnaps() []faultySnaps {
	wrong := layerOf(fileAt("/a/b", ""))
	many := slices.Repeat(snapsOf(impl.Snap{}), 11)
	cut := chainInOrder(0, 1, 2, 3, 4)
	cut[0].Parent = "q"
	return []faultySnaps{
		{"11 times the zero snapshot", many, impl.ErrMany},
		{"10 times the zero snapshot", many[:10], impl.ErrText},
		{"the zero snapshot", many[:1], impl.ErrText},
		{"no kind, and no name behind it", snapsOf(impl.Snap{Name: "a"}, impl.Snap{Kind: 2}), impl.ErrForm},
		{"no name, and no kind behind it", snapsOf(impl.Snap{Kind: 2}, impl.Snap{Name: "a"}), impl.ErrText},
		{"a layer, and no name behind it", snapsOf(doneSnap("a", "", wrong...), doneSnap("", "")), impl.ErrDir},
		{"a layer, and names that fall behind it", snapsOf(doneSnap("b", "", wrong...), doneSnap("a", "")), impl.ErrDir},
		{"names that fall, and a layer behind them", snapsOf(doneSnap("b", ""), doneSnap("a", ""), doneSnap("c", "", wrong...)), impl.ErrForm},
		{"names that fall, and a layer of the same", snapsOf(doneSnap("b", ""), doneSnap("a", "", wrong...)), impl.ErrForm},
		{"names that fall, not side by side", snapsOf(doneSnap("b", ""), doneSnap("c", ""), doneSnap("a", "")), impl.ErrForm},
		{"the same twice", snapsOf(doneSnap("a", ""), doneSnap("a", "")), impl.ErrForm},
		{"the same name with another parent", snapsOf(doneSnap("a", ""), doneSnap("b", ""), doneSnap("b", "a")), impl.ErrForm},
		{"the same name, one of them active", snapsOf(activeSnap("a", ""), doneSnap("a", "")), impl.ErrForm},
		{"a longer one ahead of its beginning", snapsOf(doneSnap("aa", ""), doneSnap("a", "")), impl.ErrForm},
		{"a layer of 13 entries", snapsOf(doneSnap("a", ""), activeSnap("b", "a", fullLayer(13)...)), impl.ErrMany},
		{"no parent, and a layer behind it", snapsOf(doneSnap("a", "q"), doneSnap("b", "", wrong...)), impl.ErrDir},
		{"an active parent, and a layer behind it", snapsOf(activeSnap("a", ""), doneSnap("b", "a"), doneSnap("c", "", wrong...)), impl.ErrDir},
		{"parents that go round, and no kind behind them", snapsOf(doneSnap("a", "a"), impl.Snap{Name: "b"}), impl.ErrForm},
		{"a parent that is none", snapsOf(doneSnap("a", ""), doneSnap("b", "c")), impl.ErrNone},
		{"a parent that begins like one", snapsOf(doneSnap("a", ""), doneSnap("b", "aa")), impl.ErrNone},
		{"a parent that one begins like", snapsOf(doneSnap("aa", ""), doneSnap("b", "a")), impl.ErrNone},
		{"a parent that is no name", snapsOf(doneSnap("a", ""), doneSnap("b", "A")), impl.ErrNone},
		{"a parent that is gone", someSnaps()[2:], impl.ErrNone},
		{"an active parent ahead", snapsOf(activeSnap("a", ""), activeSnap("b", "a")), impl.ErrState},
		{"an active parent behind", snapsOf(activeSnap("a", "b"), activeSnap("b", "")), impl.ErrState},
		{"an active parent of a done one", snapsOf(activeSnap("a", ""), doneSnap("b", "a")), impl.ErrState},
		{"an active one two above", snapsOf(activeSnap("a", ""), doneSnap("b", "a"), doneSnap("c", "b")), impl.ErrState},
		{"no parent, and an active parent behind it", snapsOf(doneSnap("a", "q"), activeSnap("b", ""), doneSnap("c", "b")), impl.ErrNone},
		{"an active parent, and no parent behind it", snapsOf(doneSnap("a", "b"), activeSnap("b", "q")), impl.ErrState},
		{"an active parent, which has no parent, ahead", snapsOf(activeSnap("a", "q"), doneSnap("b", "a")), impl.ErrNone},
		{"its own parent, done", snapsOf(doneSnap("a", "a")), impl.ErrMany},
		{"its own parent, active", snapsOf(activeSnap("a", "a")), impl.ErrState},
		{"its own parent, with a lease", snapsOf(leasedSnap(doneSnap("a", "a"))), impl.ErrMany},
		{"two that go round", snapsOf(doneSnap("a", "b"), doneSnap("b", "a")), impl.ErrMany},
		{"two that go round, the first one active", snapsOf(activeSnap("a", "b"), doneSnap("b", "a")), impl.ErrMany},
		{"two that go round, the second one active", snapsOf(doneSnap("a", "b"), activeSnap("b", "a")), impl.ErrState},
		{"two that go round, both active", snapsOf(activeSnap("a", "b"), activeSnap("b", "a")), impl.ErrState},
		{"three that go round", snapsOf(doneSnap("a", "b"), doneSnap("b", "c"), doneSnap("c", "a")), impl.ErrMany},
		{"four that go round", snapsOf(doneSnap("a", "b"), doneSnap("b", "c"), doneSnap("c", "d"), doneSnap("d", "a")), impl.ErrMany},
		{"five that go round", snapsOf(doneSnap("a", "b"), doneSnap("b", "c"), doneSnap("c", "d"), doneSnap("d", "e"), doneSnap("e", "a")), impl.ErrMany},
		{"one that leads to two that go round", snapsOf(doneSnap("a", "b"), doneSnap("b", "c"), doneSnap("c", "b")), impl.ErrMany},
		{"one beside two that go round", snapsOf(doneSnap("a", ""), doneSnap("b", "c"), doneSnap("c", "b")), impl.ErrMany},
		{"two that go round, and no parent behind them", snapsOf(doneSnap("a", "b"), doneSnap("b", "a"), doneSnap("c", "q")), impl.ErrMany},
		{"no parent, and two that go round behind it", snapsOf(doneSnap("a", "q"), doneSnap("b", "c"), doneSnap("c", "b")), impl.ErrNone},
		{"five, the last one the deepest", chainInOrder(0, 1, 2, 3, 4), impl.ErrMany},
		{"five, the first one the deepest", chainInOrder(4, 3, 2, 1, 0), impl.ErrMany},
		{"ten", chainInOrder(3, 1, 4, 0, 5, 9, 2, 6, 8, 7), impl.ErrMany},
		{"five, the first one of which has no parent that is there", cut, impl.ErrNone},
		{"five, the last one of which has no parent that is there", snapsOf(doneSnap("a", "b"), doneSnap("b", "c"), doneSnap("c", "d"), doneSnap("d", "e"), doneSnap("e", "q")), impl.ErrMany},
		{"four, the last one of which has no parent that is there", snapsOf(doneSnap("a", "b"), doneSnap("b", "c"), doneSnap("c", "d"), doneSnap("d", "q")), impl.ErrNone},
		{"five, with an active one among them", snapsOf(doneSnap("a", "b"), doneSnap("b", "c"), activeSnap("c", "d"), doneSnap("d", "e"), doneSnap("e", "")), impl.ErrMany},
		{"four, with an active one among them", snapsOf(doneSnap("a", "b"), doneSnap("b", "c"), activeSnap("c", "d"), doneSnap("d", "")), impl.ErrState},
		{"an active fifth one", snapsOf(doneSnap("a", ""), doneSnap("b", "a"), doneSnap("c", "b"), doneSnap("d", "c"), activeSnap("e", "d")), impl.ErrMany},
		{"two chains, the second one too deep", append(snapsOf(doneSnap("a", ""), doneSnap("aa", "a")), chainInOrder(0, 1, 2, 3, 4)...), impl.ErrMany},
	}
}

// TestSnapsFaultByteByByte: each byte as a name, and as the last of four.
func TestSnapsFaultByteByByte(t *testing.T) {
	for b := range 256 {
		for _, name := range []string{string([]byte{byte(b)}), "abc" + string([]byte{byte(b)})} {
			want := int64(impl.ErrText)
			if b >= 'a' && b <= 'z' {
				want = impl.OK
			}
			wantSnapsFault(t, faultySnaps{fmt.Sprintf("the name %q", name), snapsOf(doneSnap(name, "")), want})
			got, reply := impl.PrepareSnap(nil, name, ""), want
			if got.Reply != reply || impl.AddSnap(nil, name, "", nil).Reply != reply {
				t.Errorf("a new one, %q: %s", name, told(got))
			}
		}
	}
}

// TestSnapsFaultOfAllSmallLists: each parent and kind of three snapshots, and each parent of five.
func TestSnapsFaultOfAllSmallLists(t *testing.T) {
	codes := map[int64]int{}
	ask := func(list []impl.Snap) {
		t.Helper()
		got, want := impl.SnapsFault(list), snapsFaultByHand(list)
		if codes[got]++; got != want {
			t.Fatalf("SnapsFault of %s: %d, not %d", told(list), got, want)
		}
	}
	three, five := []string{"", "a", "b", "c", "q"}, []string{"", "a", "b", "c", "d", "e"}
	for i := range 5 * 5 * 5 * 8 {
		list := snapsOf(doneSnap("a", three[i/8%5]), doneSnap("b", three[i/40%5]), doneSnap("c", three[i/200%5]))
		for at := range list {
			list[at].Kind = int64(1 + i>>at&1)
		}
		ask(list)
	}
	for i := range 6 * 6 * 6 * 6 * 6 {
		ask(snapsOf(doneSnap("a", five[i%6]), doneSnap("b", five[i/6%6]), doneSnap("c", five[i/36%6]), doneSnap("d", five[i/216%6]), activeSnap("e", five[i/1296])))
	}
	for _, code := range []int64{impl.OK, impl.ErrNone, impl.ErrState, impl.ErrMany} {
		if codes[code] < 100 {
			t.Errorf("%d came %d times alone", code, codes[code])
		}
	}
}

// wantAllSnapsCode asks all functions but SnapsFault for one code, with nothing else in the answer.
func wantAllSnapsCode(t *testing.T, list []impl.Snap, name string, other string, layer []impl.Entry, p string, kind int64, code int64) {
	t.Helper()
	wantAnswer(t, "ChainOf "+name, impl.ChainOf(list, name), impl.LayersResult{Code: code})
	for what, got := range map[string]impl.SnapsResult{
		"PrepareSnap": impl.PrepareSnap(list, name, other), "AddSnap": impl.AddSnap(list, name, other, layer),
		"CommitSnap": impl.CommitSnap(list, name), "RemoveSnap": impl.RemoveSnap(list, name), "LeaseSnap": impl.LeaseSnap(list, name, kind > 1),
		"WriteSnap": impl.WriteSnap(list, name, p, countedBytes(int(uint64(kind)%30)), kind),
	} {
		wantAnswer(t, what+" "+name, got, snapsCode(code))
	}
}

// TestFaultOfTheSnapsComesFirst hands each faulty list in with other arguments that are right and that are wrong.
func TestFaultOfTheSnapsComesFirst(t *testing.T) {
	faulty, paths := faultyLists(), []string{"/a", "/x", "/a/b", "/x/x", "", "/A", "/abcde"}
	kinds := append(kindsThatAreNone(3), 1, 2, 3)
	for i, f := range faultySnapLists() {
		names := []string{"", "x", "abcde", "B"}
		for _, s := range f.list[:min(6, len(f.list))] {
			names = append(names, s.Name)
		}
		for j, name := range names {
			layer := [][]impl.Entry{nil, fullLayer(12), faulty[(i*7+j)%len(faulty)].layer}[(i+j)%3]
			wantAllSnapsCode(t, f.list, name, names[(i+j*3)%len(names)], layer, paths[(i+j)%len(paths)], kinds[(i+j)%len(kinds)], f.code)
		}
	}
}
