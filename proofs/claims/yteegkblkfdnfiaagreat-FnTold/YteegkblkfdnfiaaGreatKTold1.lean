/-
  Texts put together: Mem PathL Strs PathM PathS PathA LayL Ents EntF LayP LibP Pieces.
-/
import Derived.Test.YteegkblkfdnfiaaGreatRows
import Derived.WalkKit
import Derived.WalkSpells
import Derived.WalkLawsBesides
import Derived.Deep.OwnRows
import Derived.BigQuiet
import Derived.Deep.QuietTactic
import Derived.Carry
import Derived.Lib.Bytealg
import Derived.Lib.Strings
import GoSem.Op.String
import Derived.Deep.RegionHeld3
import Derived.Handy
import Derived.Shelf.Strings.OnBuilder
import Derived.Shelf.Strconv.Clone
import Derived.Shelf.Slices.Turned
import Derived.Shelf.Strings.Search2
import Derived.Shelf.Small.Wraps
import Derived.Test.YteegkblkfdnfiaaGreatProg
import Derived.Lib.IndexLaws
import Derived.RangeFuncNested
import Derived.RangeFuncBound
import Derived.RangeFuncCalls
import Derived.RangeFuncLeaves
import Derived.RangeFuncBox
import Derived.Shelf.Abstract
import Derived.Shelf.RegionOpen
import Derived.OwnWalkIn
import Derived.TacticsInMore
import Derived.LoopNIn
import Derived.LoopIn
import Derived.Maps.AppendAt
namespace Go.Proofs.YteegkblkfdnfiaaGreat
open Go.RowKit
set_option linter.unusedVariables false

theorem hide {p : Prop} (h : p) : Hid p := h

theorem ret_bool {a b : Bool} (h : a = b) : Ending.returned (.bool a) = .returned (.bool b) := by rw [h]
theorem ret_int {k : IntKind} {a b : Int} (h : a = b) : Ending.returned (.int k a) = .returned (.int k b) := by rw [h]

def Reads (k : IntKind) (w : World) (a : Option Addr) (zs : List Int) : Prop :=
  zs ≠ [] → ∃ b off, a = some ⟨b, off, none⟩ ∧ b < w.heap.size ∧ ∀ i, i < zs.length → w.cell? ⟨b, off + i, none⟩ = some (.int k (zs.getD i 0))

structure Kept (S : Nat → Prop) (w w' : World) : Prop where
  os : w'.os = w.os
  tape : w'.tape = w.tape
  output : w'.output = w.output
  size : w.heap.size ≤ w'.heap.size
  block : ∀ k, k < w.heap.size → ¬ S k → w'.heap[k]? = w.heap[k]?

namespace Kept
variable {S T : Nat → Prop} {w w' w'' : World}
theorem refl (S : Nat → Prop) (w : World) : Kept S w w := ⟨rfl, rfl, rfl, Nat.le_refl _, fun _ _ _ => rfl⟩
theorem trans (h : Kept S w w') (k : Kept S w' w'') : Kept S w w'' :=
  ⟨k.os.trans h.os, k.tape.trans h.tape, k.output.trans h.output, Nat.le_trans h.size k.size, fun i hi hn => (k.block i (Nat.lt_of_lt_of_le hi h.size) hn).trans (h.block i hi hn)⟩
theorem mono (h : Kept S w w') (hs : ∀ k, k < w.heap.size → S k → T k) : Kept T w w' := ⟨h.os, h.tape, h.output, h.size, fun k hk hn => h.block k hk (fun hS => hn (hs k hk hS))⟩
theorem alloc (h : Kept S w w') (o : Obj) : Kept S w (w'.alloc o) :=
  ⟨h.os, h.tape, h.output, Nat.le_trans h.size (by simp), fun k hk hn => (Below.heap_alloc _ _ _ (Nat.lt_of_lt_of_le hk h.size)).trans (h.block k hk hn)⟩
theorem setCell (h : Kept S w w') {p : Addr} (hp : p.block < w.heap.size → S p.block) (u : Value) : Kept S w (w'.setCell p u) :=
  ⟨h.os, h.tape, h.output, Nat.le_trans h.size (by simp [World.setCell]), fun k hk hn => (Below.heap_setCell _ _ _ _ (fun e => by subst e; exact hn (hp hk))).trans (h.block k hk hn)⟩
theorem cell (h : Kept S w w') {p : Addr} (hp : p.block < w.heap.size) (hn : ¬ S p.block) : w'.cell? p = w.cell? p := World.cell?_of_block (w := w) (h.block _ hp hn)
theorem frozen (h : Kept S w w') {p : Addr} (hp : p.block < w.heap.size) (hn : ¬ S p.block) : w'.frozen? p = w.frozen? p := World.frozen?_of_block (w := w) (h.block _ hp hn)
theorem below (h : Kept S w w') {B : Nat} (hB : B ≤ w.heap.size) (hS : ∀ k, k < B → ¬ S k) : Below B w w' := ⟨h.os, h.tape, h.output, h.size, fun k hk => h.block k (by omega) (hS k hk)⟩
theorem of_below (h : Below w.heap.size w w') : Kept S w w' := ⟨h.os, h.tape, h.output, h.size, fun k hk _ => h.block k hk⟩
end Kept

theorem Kept.two (w : World) (b i j : Nat) (u v : Value) : Kept (fun x => x = b) w ((w.setCell ⟨b, i, none⟩ u).setCell ⟨b, j, none⟩ v) :=
  Kept.setCell (S := fun x => x = b) (p := ⟨b, j, none⟩) (Kept.setCell (S := fun x => x = b) (p := ⟨b, i, none⟩) (Kept.refl _ w) (fun _ => rfl) u) (fun _ => rfl) v

def Two (w : World) (b : Nat) (u v : Value) : Prop := w.cell? ⟨b, 0, none⟩ = some u ∧ w.cell? ⟨b, 1, none⟩ = some v
theorem Two.lt {w : World} {b : Nat} {u v : Value} (h : Two w b u v) : b < w.heap.size := World.block_lt_of_cell? w ⟨b, 0, none⟩ h.1
theorem Two.kept {S : Nat → Prop} {w w' : World} {b : Nat} {u v : Value} (h : Two w b u v) (hk : Kept S w w') (hn : ¬ S b) : Two w' b u v :=
  ⟨(hk.cell (p := ⟨b, 0, none⟩) h.lt hn).trans h.1, (hk.cell (p := ⟨b, 1, none⟩) h.lt hn).trans h.2⟩
theorem Two.below {w w' : World} {b : Nat} {u v : Value} (h : Two w b u v) (hk : Below w.heap.size w w') : Two w' b u v :=
  h.kept (S := fun _ => False) (Kept.of_below hk) id
theorem Two.new (w : World) (u v : Value) (t : TypeId) : Two (w.alloc (.cells #[u, v] t)) w.heap.size u v := ⟨by simp, by simp⟩
def Box (w : World) (b : Nat) (u v : Value) : Prop := Two w b u v ∧ w.frozen? ⟨b, 0, none⟩ = false ∧ w.frozen? ⟨b, 1, none⟩ = false
theorem Box.kept {S : Nat → Prop} {w w' : World} {b : Nat} {u v : Value} (h : Box w b u v) (hk : Kept S w w') (hn : ¬ S b) : Box w' b u v :=
  ⟨h.1.kept hk hn, (hk.frozen (p := ⟨b, 0, none⟩) h.1.lt hn).trans h.2.1, (hk.frozen (p := ⟨b, 1, none⟩) h.1.lt hn).trans h.2.2⟩
theorem Box.below {w w' : World} {b : Nat} {u v : Value} (h : Box w b u v) (hk : Below w.heap.size w w') : Box w' b u v :=
  h.kept (S := fun _ => False) (Kept.of_below hk) id
theorem Box.new (w : World) (u v : Value) (t : TypeId) : Box (w.alloc (.cells #[u, v] t)) w.heap.size u v := ⟨Two.new w u v t, by simp, by simp⟩
theorem below_alloc (w : World) (o : Obj) : Below w.heap.size w (w.alloc o) := (Below.refl _ _).alloc (Nat.le_refl _) _
theorem below_next {w w' w'' : World} (h : Below w.heap.size w w') (k : Below w'.heap.size w' w'') : Below w.heap.size w w'' := h.trans (k.mono h.size)

theorem Reads.kept {k : IntKind} {S : Nat → Prop} {w w' : World} {a : Option Addr} {zs : List Int} (h : Reads k w a zs) (hk : Kept S w w') (hn : zs ≠ [] → ∀ x, a = some x → ¬ S x.block) : Reads k w' a zs := by
  intro hz
  obtain ⟨b, off, rfl, hb, hc⟩ := h hz
  exact ⟨b, off, rfl, Nat.lt_of_lt_of_le hb hk.size, fun i hi => (hk.cell (p := ⟨b, off + i, none⟩) hb (hn hz ⟨b, off, none⟩ rfl)).trans (hc i hi)⟩

theorem Reads.below {k : IntKind} {w w' : World} {a : Option Addr} {zs : List Int} (h : Reads k w a zs) (hk : Below w.heap.size w w') : Reads k w' a zs :=
  h.kept (S := fun _ => False) (Kept.of_below hk) (fun _ _ _ => id)

def U8 (zs : List Int) : Prop := ∀ z ∈ zs, 0 ≤ z ∧ z ≤ 255
theorem U8.get {zs : List Int} (h : U8 zs) (i : Nat) : 0 ≤ zs.getD i 0 ∧ zs.getD i 0 ≤ 255 := by
  by_cases hi : i < zs.length
  · have e : zs.getD i 0 = zs[i] := by simp [List.getD_eq_getElem?_getD, hi]
    rw [e]; exact h _ (List.getElem_mem hi)
  · have e : zs.getD i 0 = 0 := by simp [List.getD_eq_getElem?_getD, List.getElem?_eq_none (Nat.le_of_not_lt hi)]
    rw [e]; omega

theorem reads_of_row {W : World} {x : Addr} {l c : Nat} {zs : List Int} (hz : zs.length = c) (hl : l ≤ c) (hm : c ≤ maxLen) (hcell : ∀ i, i < zs.length → W.cell? (x.add i) = some (.int .u8 (zs.getD i 0))) (hwz : ∀ n ∈ zs, (Lit.int .u8 n).wf = true) :
    ∃ ys : List Int, ys.length = l ∧ Reads .u8 W (some x) ys ∧ U8 ys ∧ ys.length ≤ maxLen := by
  have hlen : (zs.take l).length = l := by simp; omega
  refine ⟨zs.take l, hlen, ?_, ?_, by omega⟩
  · intro hne
    have h0 : 0 < l := by
      rcases Nat.eq_zero_or_pos l with h | h
      · subst h; exact absurd rfl hne
      · exact h
    obtain ⟨b, off, spot⟩ := x
    have hc := hcell 0 (by omega)
    have hspot : spot = none := by simpa [Addr.add] using World.cell?_spot hc
    subst hspot
    refine ⟨b, off, rfl, World.block_lt_of_cell? W _ (by simpa [Addr.add] using hc), fun i hi => ?_⟩
    have := hcell i (by omega)
    have e : (zs.take l).getD i 0 = zs.getD i 0 := by
      have h2 : i < l := by omega
      simp [List.getD_eq_getElem?_getD, h2]
    rw [e]
    have ea : (⟨b, off, none⟩ : Addr).add i = ⟨b, off + i, none⟩ := by unfold Addr.add; split <;> simp_all
    rw [ea] at this
    exact this
  · intro z hz'
    have := hwz z (List.mem_of_mem_take hz')
    simp [Lit.wf, IntKind.min, IntKind.max, IntKind.signed, IntKind.bits] at this
    omega

theorem cell_set_same {w : World} {a : Addr} {v u : Value} (h : w.cell? a = some u) : (w.setCell a v).cell? a = some v :=
  World.cell?_setCell_same' w a v (by rw [h]; rfl)
theorem cell_set_other {w : World} {a b : Addr} {v : Value} (h : a ≠ b) : (w.setCell a v).cell? b = w.cell? b := by
  apply World.cell?_setCell_other; exact h
theorem cell_set_far {w : World} {b o b' o' : Nat} {v u : Value} (h : b ≠ b') (hc : w.cell? ⟨b', o', none⟩ = some u) : (w.setCell ⟨b, o, none⟩ v).cell? ⟨b', o', none⟩ = some u :=
  (World.cell?_of_block (a := ⟨b', o', none⟩) (w := w) (Below.heap_setCell w ⟨b, o, none⟩ v b' (fun e => h e.symm))).trans hc

theorem wpList_append_one {P : Program} {wr : World} {news : Array Value} {ops : Array Oper} {rest : List Oper} {o : Oper} {a : Act} {Q : Exit → Act → World → Prop} (hgd : o.guard = none) (s x : Operand) (t : TypeId)
    (ho : o.op = .call { callee := .builtin .append, args := #[s, x], argTypes := #[t, t] })
    (base : Nat) (e : TypeId) (i : TypeInfo) (z : Value) (size bytes : Nat) (ht : P.underlying t = some (.slice e)) (hi : P.info? e = some i) (hz : i.zero = some z)
    (hsize : i.size = size) (hby : i.bytes = bytes) (hzs : z.cells.size = size) (hsz : 0 < size)
    (v : Value) (n : Nat) (xs : List Value) (hs : a.eval s = v) (hown : wr.ownsRow base e size v n xs)
    (hx : a.eval x = .slice (some ⟨wr.heap.size, 0, none⟩) 1 1) (hl : news.size = size) (h1 : ∀ u ∈ news.toList, u.oneCell' = true)
    (h63 : n + 1 ≤ maxLen) (hbytes : (n + 1) * bytes ≤ 140737488355328) (hbase : base ≤ wr.heap.size)
    (h : ∀ v' w', w'.ownsRow base e size v' (n + 1) (xs ++ news.toList) → Kept (fun b => v.ownBlock = some b) wr w' → wpList P ops Q rest (a.put o.dst v') w') :
    wpList P ops Q (o :: rest) a (wr.alloc (.cells news e)) := by
  refine wpList_append_own _ hgd s x t ho base e i z size bytes ht hi hz hsize hby hzs hsz v n xs hs (hown.alloc _) ⟨wr.heap.size, 0, none⟩ 1 1 news.toList hx (by simp [hl]) ?_ h1 h63 hbytes (by simp; omega) ?_
  · intro j u hj
    have hadd : (⟨wr.heap.size, 0, none⟩ : Addr).add j = ⟨wr.heap.size, j, none⟩ := by unfold Addr.add; split <;> simp_all
    rw [hadd, cell_of_row _ wr.heap.size j news e (0, 0) (heap_alloc_new wr _)]
    simpa using hj
  · intro v' w' ho' hg _
    refine h v' w' ho' ⟨hg.os, hg.tape, hg.output, Nat.le_trans (by simp) hg.size, fun k hk hn => ?_⟩
    rw [hg.block k (by simp; omega) (fun e => hn e.symm)]
    exact Below.heap_alloc _ _ _ hk

theorem Kept.below_own {w w' wr : World} {B : Nat} {v : Value} {e : TypeId} {size n : Nat} {xs : List Value} (hb : Below B w wr) (hB : B ≤ wr.heap.size) (hown : wr.ownsRow B e size v n xs) (hk : Kept (fun b => v.ownBlock = some b) wr w') : Below B w w' :=
  hb.trans (hk.below hB (fun k hk' he => by have := (hown.lt k he).1; omega))

theorem ownsRow_ints {w : World} {base : Nat} {e : TypeId} {v : Value} {k : IntKind} {n : Nat} {zs : List Int} (h : w.ownsRow base e 1 v n (zs.map (Value.int k))) (hn : n = zs.length) (hz : 0 < n) :
    ∃ g cap, v = .slice (some ⟨g, 0, none⟩) n cap ∧ base ≤ g ∧ g < w.heap.size ∧ (∀ i, i < n → w.cell? ⟨g, i, none⟩ = some (.int k (zs.getD i 0))) ∧ ∀ i, w.frozen? ⟨g, i, none⟩ = false := by
  obtain ⟨h1, h2⟩ := h
  rcases h2 with ⟨_, h0⟩ | ⟨g, cap, cur, rfl, hg, hh, hc, hm, hs, ht⟩
  · omega
  · refine ⟨g, cap, rfl, hg, (Array.getElem?_eq_some_iff.1 hh).1, fun i hi => ?_, fun i => by simp [World.frozen?, hh]⟩
    rw [cell_of_row w g i cur e (0, 0) hh]
    have e1 : (cur.toList.take (n * 1))[i]? = (zs.map (Value.int k))[i]? := by rw [ht]
    rw [List.getElem?_take, if_pos (by omega)] at e1
    have hi2 : i < zs.length := by omega
    simp [hi2] at e1
    simpa [List.getD_eq_getElem?_getD, hi2] using e1

theorem ownsRow_kept {S : Nat → Prop} {w w' : World} {base : Nat} {e : TypeId} {size : Nat} {v : Value} {n : Nat} {xs : List Value} (h : w.ownsRow base e size v n xs) (hk : Kept S w w') (hn : ∀ b, v.ownBlock = some b → ¬ S b) : w'.ownsRow base e size v n xs := by
  refine ⟨h.1, ?_⟩
  rcases h.2 with hz | ⟨g, cap, cur, rfl, hb, hgg, rest⟩
  · exact .inl hz
  · refine .inr ⟨g, cap, cur, rfl, hb, ?_, rest⟩
    rw [hk.block g (Array.getElem?_eq_some_iff.1 hgg).1 (hn g rfl)]
    exact hgg
theorem ownsRow_below {w w' : World} {base : Nat} {e : TypeId} {size : Nat} {v : Value} {n : Nat} {xs : List Value} (h : w.ownsRow base e size v n xs) (hk : Below w.heap.size w w') : w'.ownsRow base e size v n xs :=
  ownsRow_kept (S := fun _ => False) h (Kept.of_below hk) (fun _ _ => id)
theorem ownsRow_mono {w : World} {base base' : Nat} {e : TypeId} {size : Nat} {v : Value} {n : Nat} {xs : List Value} (h : w.ownsRow base e size v n xs) (hb : base' ≤ base) : w.ownsRow base' e size v n xs := by
  refine ⟨h.1, ?_⟩
  rcases h.2 with hz | ⟨g, cap, cur, hv, hg, rest⟩
  · exact .inl hz
  · exact .inr ⟨g, cap, cur, hv, by omega, rest⟩
theorem ownsRow_shape {w : World} {base : Nat} {e : TypeId} {size : Nat} {v : Value} {n : Nat} {xs : List Value} (h : w.ownsRow base e size v n xs) : ∃ a c, v = .slice a n c := by
  rcases h.2 with ⟨rfl, rfl⟩ | ⟨g, cap, cur, rfl, _⟩
  · exact ⟨_, _, rfl⟩
  · exact ⟨_, _, rfl⟩
theorem ownsRow_apart {w : World} {b1 b2 : Nat} {e1 e2 : TypeId} {s1 s2 : Nat} {v1 v2 : Value} {n1 n2 : Nat} {x1 x2 : List Value} (h1 : w.ownsRow b1 e1 s1 v1 n1 x1) (h2 : w.ownsRow b2 e2 s2 v2 n2 x2) (he : e1 ≠ e2) {g : Nat} (hg1 : v1.ownBlock = some g) (hg2 : v2.ownBlock = some g) : False := by
  rcases h1.2 with ⟨rfl, _⟩ | ⟨g1, c1, cur1, rfl, _, hh1, _⟩
  · simp [Value.ownBlock] at hg1
  · rcases h2.2 with ⟨rfl, _⟩ | ⟨g2, c2, cur2, rfl, _, hh2, _⟩
    · simp [Value.ownBlock] at hg2
    · simp [Value.ownBlock] at hg1 hg2
      subst hg1 hg2
      rw [hh1] at hh2
      simp at hh2
      exact he hh2.2

def Own (k : IntKind) (w : World) (a : Option Addr) (zs : List Int) : Prop :=
  zs ≠ [] → ∃ b off, a = some ⟨b, off, none⟩ ∧ b < w.heap.size ∧ ∀ i, i < zs.length → w.cell? ⟨b, off + i, none⟩ = some (.int k (zs.getD i 0)) ∧ w.frozen? ⟨b, off + i, none⟩ = false
theorem Own.reads {k : IntKind} {w : World} {a : Option Addr} {zs : List Int} (h : Own k w a zs) : Reads k w a zs := by
  intro hz
  obtain ⟨b, off, e, hb, hc⟩ := h hz
  exact ⟨b, off, e, hb, fun i hi => (hc i hi).1⟩
def marks (k : Int) (n : Nat) : List Int := (List.range n).map fun (i : Nat) => (k + i) % 256
theorem take_eq_step {xs ys : List Int} {k : Nat} (h1 : k < xs.length) (h2 : k < ys.length) (h : xs.take k = ys.take k) (e : xs.getD k 0 = ys.getD k 0) : xs.take (k + 1) = ys.take (k + 1) := by
  rw [List.take_succ_eq_append_getElem h1, List.take_succ_eq_append_getElem h2, h]
  simp [List.getD_eq_getElem?_getD, h1, h2] at e
  rw [e]
theorem ne_of_getD {xs ys : List Int} {k : Nat} (e : xs.getD k 0 ≠ ys.getD k 0) : (xs == ys) = false := by
  simp only [beq_eq_false_iff_ne]
  intro h
  exact e (by rw [h])
theorem eq_of_take {xs ys : List Int} {k : Nat} (hk : xs.length ≤ k) (hk2 : ys.length ≤ k) (h : xs.take k = ys.take k) : (xs == ys) = true := by
  rw [List.take_of_length_le hk, List.take_of_length_le hk2] at h
  simp [h]


def ahead (P : Nat → List Int) : Nat → Nat
  | 0 => 0
  | i + 1 => ahead P i + (P i).length

end Go.Proofs.YteegkblkfdnfiaaGreat

namespace Go.Proofs.YteegkblkfdnfiaaGreat
set_option linter.unusedVariables false

abbrev Bs := List UInt8
def str (l : Bs) : ByteArray := ⟨l.toArray⟩
theorem str_data (l : Bs) : (str l).data.toList = l := by simp [str]
theorem str_size (l : Bs) : (str l).size = l.length := by simp [str, ByteArray.size]
theorem str_of (s : ByteArray) : str s.data.toList = s := by simp [str]
def cutB : Bs → List Bs
  | [] => [[]]
  | c :: l => if c = 47 then [] :: cutB l else
    match cutB l with
    | [] => [[c]]
    | p :: ps => (c :: p) :: ps
def joinB : List Bs → Bs
  | [] => []
  | n :: ns => 47 :: (n ++ joinB ns)

theorem cutB_ne (l : Bs) : cutB l ≠ [] := by
  cases l with
  | nil => simp [cutB]
  | cons c l =>
    simp only [cutB]
    split
    · simp
    · split <;> simp
theorem cutB_stroke (l : Bs) : cutB (47 :: l) = [] :: cutB l := by simp [cutB]
theorem cutB_other {c : UInt8} (h : c ≠ 47) {l : Bs} {p : Bs} {ps : List Bs} (e : cutB l = p :: ps) : cutB (c :: l) = (c :: p) :: ps := by
  simp [cutB, h, e]
theorem cutB_head (l : Bs) : ∃ p ps, cutB l = p :: ps := by
  cases e : cutB l with
  | nil => exact absurd e (cutB_ne l)
  | cons p ps => exact ⟨p, ps, rfl⟩

theorem cutB_miss {l : Bs} (h : (47 : UInt8) ∉ l) : cutB l = [l] := by
  induction l with
  | nil => rfl
  | cons c l ih =>
    have h1 : c ≠ 47 := fun e => h (by simp [e])
    have h2 : (47 : UInt8) ∉ l := fun e => h (by simp [e])
    exact cutB_other h1 (ih h2)
theorem cutB_hit {a : Bs} (b : Bs) (h : (47 : UInt8) ∉ a) : cutB (a ++ 47 :: b) = a :: cutB b := by
  induction a with
  | nil => exact cutB_stroke b
  | cons c a ih =>
    have h1 : c ≠ 47 := fun e => h (by simp [e])
    have h2 : (47 : UInt8) ∉ a := fun e => h (by simp [e])
    exact cutB_other h1 (ih h2)

theorem cutB_no : ∀ (l : Bs), ∀ n ∈ cutB l, (47 : UInt8) ∉ n
  | [], n, h => by simp [cutB] at h; simp [h]
  | c :: l, n, h => by
    by_cases hc : c = 47
    · subst hc
      rw [cutB_stroke] at h
      rcases List.mem_cons.1 h with rfl | h
      · simp
      · exact cutB_no l n h
    · obtain ⟨p, ps, e⟩ := cutB_head l
      rw [cutB_other hc e] at h
      rcases List.mem_cons.1 h with rfl | h
      · have := cutB_no l p (by simp [e])
        simp [this, Ne.symm hc]
      · exact cutB_no l n (by simp [e, h])

theorem join_append (a b : List Bs) : joinB (a ++ b) = joinB a ++ joinB b := by
  induction a with
  | nil => rfl
  | cons n a ih => simp [joinB, ih]
theorem join_cut : ∀ (l : Bs), joinB (cutB l) = 47 :: l
  | [] => rfl
  | c :: l => by
    by_cases hc : c = 47
    · subst hc
      rw [cutB_stroke, joinB, join_cut l]; rfl
    · obtain ⟨p, ps, e⟩ := cutB_head l
      have ih := join_cut l
      rw [e, joinB] at ih
      rw [cutB_other hc e, joinB]
      simp at ih ⊢
      exact ih
theorem cut_join : ∀ {ns : List Bs}, ns ≠ [] → (∀ n ∈ ns, (47 : UInt8) ∉ n) → cutB (joinB ns).tail = ns
  | [], h, _ => absurd rfl h
  | [n], _, h => by simpa [joinB] using cutB_miss (h n (by simp))
  | n :: m :: ns, _, h => by
    have ih := cut_join (ns := m :: ns) (by simp) (fun x hx => h x (by simp [List.mem_cons.1 hx]))
    have e : joinB (n :: m :: ns) = 47 :: (n ++ 47 :: (joinB (m :: ns)).tail) := by simp [joinB]
    rw [e, List.tail_cons, cutB_hit _ (h n (by simp)), ih]
theorem joinB_cons {ns : List Bs} (h : ns ≠ []) : joinB ns = 47 :: (joinB ns).tail := by
  cases ns with
  | nil => exact absurd rfl h
  | cons n ns => rfl

theorem cutB_length (l : Bs) : (cutB l).length ≤ l.length + 1 := by
  induction l with
  | nil => simp [cutB]
  | cons c l ih =>
    by_cases hc : c = 47
    · subst hc; rw [cutB_stroke]; simp; omega
    · obtain ⟨p, ps, e⟩ := cutB_head l
      rw [cutB_other hc e]
      rw [e] at ih
      simp at ih ⊢; omega
theorem cutB_each : ∀ (l : Bs), ∀ n ∈ cutB l, n.length ≤ l.length
  | [], n, h => by simp [cutB] at h; simp [h]
  | c :: l, n, h => by
    by_cases hc : c = 47
    · subst hc
      rw [cutB_stroke] at h
      rcases List.mem_cons.1 h with rfl | h
      · simp
      · have := cutB_each l n h; simp; omega
    · obtain ⟨p, ps, e⟩ := cutB_head l
      rw [cutB_other hc e] at h
      rcases List.mem_cons.1 h with rfl | h
      · have := cutB_each l p (by simp [e]); simp; omega
      · have := cutB_each l n (by simp [e, h]); simp; omega

def small (c : UInt8) : Bool := decide (97 ≤ (c.toNat : Int) ∧ (c.toNat : Int) ≤ 122)
def plain (n : Bs) : Bool := n.all small && !n.isEmpty
def faultN (ns : List Bs) : Int := if ns.all plain then (if ns.all (fun n => decide (n.length ≤ 4)) && decide (ns.length ≤ 3) then 0 else 2) else 5
def faultP (p : Bs) : Int :=
  match p with
  | [] => 5
  | c :: r => if c = 47 then faultN (cutB r) else 5

def Names (ns : List Bs) : Prop := ns ≠ [] ∧ (∀ n ∈ ns, plain n = true) ∧ (∀ n ∈ ns, n.length ≤ 4) ∧ ns.length ≤ 3

theorem plain_no {n : Bs} (h : plain n = true) : (47 : UInt8) ∉ n := by
  intro hm
  simp only [plain, Bool.and_eq_true, List.all_eq_true] at h
  have := h.1 47 hm
  exact absurd this (by decide)
theorem plain_ne {n : Bs} (h : plain n = true) : n ≠ [] := by
  intro e
  subst e
  simp [plain] at h
theorem faultN_zero {ns : List Bs} (hne : ns ≠ []) (h : faultN ns = 0) : Names ns := by
  unfold faultN at h
  split at h
  · rename_i hp
    split at h
    · rename_i hq
      simp at hp hq
      exact ⟨hne, hp, hq.1, hq.2⟩
    · omega
  · omega
theorem faultN_of {ns : List Bs} (h : Names ns) : faultN ns = 0 := by
  obtain ⟨h0, h1, h2, h3⟩ := h
  unfold faultN
  rw [if_pos (by simpa using h1), if_pos (by simpa using ⟨h2, h3⟩)]
theorem names_no {ns : List Bs} (h : Names ns) : ∀ n ∈ ns, (47 : UInt8) ∉ n := fun n hn => plain_no (h.2.1 n hn)
theorem faultP_zero {p : Bs} (h : faultP p = 0) : ∃ ns, Names ns ∧ p = joinB ns ∧ cutB p.tail = ns ∧ p = 47 :: p.tail := by
  cases p with
  | nil => simp [faultP] at h
  | cons c r =>
    by_cases hc : c = 47
    · subst hc
      simp only [faultP, if_pos] at h
      have hn := faultN_zero (cutB_ne r) h
      exact ⟨cutB r, hn, by rw [join_cut], rfl, rfl⟩
    · simp [faultP, hc] at h
theorem faultP_of {ns : List Bs} (h : Names ns) : faultP (joinB ns) = 0 := by
  rw [joinB_cons h.1]
  simp only [faultP, if_pos]
  rw [cut_join h.1 (names_no h)]
  exact faultN_of h
theorem cut_of {ns : List Bs} (h : Names ns) : cutB (joinB ns).tail = ns := cut_join h.1 (names_no h)

theorem join_len : ∀ (ns : List Bs), (∀ n ∈ ns, n.length ≤ 4) → (joinB ns).length ≤ 5 * ns.length
  | [], _ => by simp [joinB]
  | n :: ns, h => by
    have := join_len ns (fun m hm => h m (by simp [hm]))
    have := h n (by simp)
    simp [joinB]; omega
def aboveN (ns : List Bs) : List Bs := (List.range (ns.length - 1)).map fun k => joinB (ns.take (k + 1))
def above (p : Bs) : List Bs := if faultP p = 0 then aboveN (cutB p.tail) else []

theorem aboveN_length (ns : List Bs) : (aboveN ns).length = ns.length - 1 := by simp [aboveN]
theorem names_take {ns : List Bs} (h : Names ns) {k : Nat} (hk : 0 < k) : Names (ns.take k) := by
  obtain ⟨h0, h1, h2, h3⟩ := h
  refine ⟨?_, fun n hn => h1 n (List.mem_of_mem_take hn), fun n hn => h2 n (List.mem_of_mem_take hn), by simp; omega⟩
  cases ns with
  | nil => exact absurd rfl h0
  | cons a l => cases k with
    | zero => omega
    | succ k => simp
theorem mem_aboveN {ns : List Bs} {t : Bs} : t ∈ aboveN ns ↔ ∃ k, 0 < k ∧ k < ns.length ∧ t = joinB (ns.take k) := by
  unfold aboveN
  simp only [List.mem_map, List.mem_range]
  constructor
  · rintro ⟨k, hk, rfl⟩; exact ⟨k + 1, by omega, by omega, rfl⟩
  · rintro ⟨k, h0, hk, rfl⟩
    refine ⟨k - 1, by omega, ?_⟩
    have : k - 1 + 1 = k := by omega
    rw [this]

def belowB (p t : Bs) : Bool := decide (t.length + 1 < p.length) && (p.take t.length == t) && (p.drop t.length).head? == some 47

theorem above_iff {p t : Bs} (hp : faultP p = 0) : t ∈ aboveN (cutB p.tail) ↔ faultP t = 0 ∧ belowB p t = true := by
  obtain ⟨ns, hN, hpe, hc, hs⟩ := faultP_zero hp
  rw [hc, mem_aboveN]
  constructor
  · rintro ⟨k, h0, hk, rfl⟩
    refine ⟨faultP_of (names_take hN h0), ?_⟩
    have hd : ns.drop k ≠ [] := by intro e; have := congrArg List.length e; simp at this; omega
    obtain ⟨m, ms, hm⟩ : ∃ m ms, ns.drop k = m :: ms := by
      cases e : ns.drop k with
      | nil => exact absurd e hd
      | cons m ms => exact ⟨m, ms, rfl⟩
    have hm1 : m ∈ ns := List.mem_of_mem_drop (by rw [hm]; simp)
    have hm2 := plain_ne (hN.2.1 m hm1)
    have e : p = joinB (ns.take k) ++ 47 :: (m ++ joinB ms) := by
      rw [hpe]
      conv => lhs; rw [← List.take_append_drop k ns, join_append, hm, joinB]
    have hl : 0 < m.length := List.length_pos_iff.2 hm2
    rw [e]
    simp [belowB]
    omega
  · rintro ⟨ht, hb⟩
    obtain ⟨ms, hM, hte, hcm, hsm⟩ := faultP_zero ht
    simp only [belowB, Bool.and_eq_true, decide_eq_true_eq, beq_iff_eq] at hb
    obtain ⟨⟨hlen, htake⟩, hhead⟩ := hb
    obtain ⟨r, hr⟩ : ∃ r, p.drop t.length = 47 :: r := by
      cases e : p.drop t.length with
      | nil => rw [e] at hhead; simp at hhead
      | cons c r => rw [e] at hhead; simp at hhead; exact ⟨r, by rw [hhead]⟩
    have e : p = joinB (ms ++ cutB r) := by
      rw [join_append, join_cut, ← hte, ← hr]
      conv => lhs; rw [← List.take_append_drop t.length p, htake]
    have hns : ns = ms ++ cutB r := by
      rw [← hc, e]
      refine cut_join (by simp [hM.1]) (fun n hn => ?_)
      rcases List.mem_append.1 hn with h | h
      · exact names_no hM n h
      · exact cutB_no r n h
    refine ⟨ms.length, List.length_pos_iff.2 hM.1, ?_, ?_⟩
    · rw [hns]; have := List.length_pos_iff.2 (cutB_ne r); simp; omega
    · rw [hns]; simp [hte]

def lastN (ns : List Bs) : Bs := ns.getLastD []
end Go.Proofs.YteegkblkfdnfiaaGreat

namespace Go.Proofs.YteegkblkfdnfiaaGreat
open Go.RowKit
set_option linter.unusedVariables false

def vS (p : Bs) : Value := .string (str p)
def OwnS (B : Nat) (w : World) (v : Value) (ps : List Bs) : Prop := w.ownsRow B 9 1 v ps.length (ps.map vS)
def ReadsS (w : World) (a : Option Addr) (ps : List Bs) : Prop :=
  ps ≠ [] → ∃ b off, a = some ⟨b, off, none⟩ ∧ b < w.heap.size ∧ ∀ i, i < ps.length → w.cell? ⟨b, off + i, none⟩ = some (.string (str (ps.getD i [])))

theorem ReadsS.kept {S : Nat → Prop} {w w' : World} {a : Option Addr} {ps : List Bs} (h : ReadsS w a ps) (hk : Kept S w w') (hn : ps ≠ [] → ∀ x, a = some x → ¬ S x.block) : ReadsS w' a ps := by
  intro hz
  obtain ⟨b, off, rfl, hb, hc⟩ := h hz
  exact ⟨b, off, rfl, Nat.lt_of_lt_of_le hb hk.size, fun i hi => (hk.cell (p := ⟨b, off + i, none⟩) hb (hn hz ⟨b, off, none⟩ rfl)).trans (hc i hi)⟩
theorem ReadsS.below {w w' : World} {a : Option Addr} {ps : List Bs} (h : ReadsS w a ps) (hk : Below w.heap.size w w') : ReadsS w' a ps :=
  h.kept (S := fun _ => False) (Kept.of_below hk) (fun _ _ _ => id)
theorem ReadsS.at {w : World} {a : Option Addr} {ps : List Bs} (h : ReadsS w a ps) {k : Nat} (hk : k < ps.length) :
    ∃ b off p, a = some ⟨b, off, none⟩ ∧ b < w.heap.size ∧ ps[k]? = some p ∧ w.cell? ⟨b, off + k, none⟩ = some (.string (str p)) := by
  obtain ⟨b, off, e, hb, hc⟩ := h (by intro e; simp [e] at hk)
  refine ⟨b, off, ps[k], e, hb, by simp [hk], ?_⟩
  rw [hc k hk]
  simp [List.getD_eq_getElem?_getD, hk]

namespace OwnS
variable {B : Nat} {w w' : World} {v : Value} {ps : List Bs}
theorem nil (B : Nat) (w : World) : OwnS B w (.slice none 0 0) [] := World.ownsRow_nil _ _ _ _
theorem shape (h : OwnS B w v ps) : ∃ a c, v = .slice a ps.length c := ownsRow_shape h
theorem below (h : OwnS B w v ps) (hk : Below w.heap.size w w') : OwnS B w' v ps := ownsRow_below h hk
theorem kept {S : Nat → Prop} (h : OwnS B w v ps) (hk : Kept S w w') (hn : ∀ b, v.ownBlock = some b → ¬ S b) : OwnS B w' v ps := ownsRow_kept h hk hn
theorem mono {B' : Nat} (h : OwnS B w v ps) (hb : B' ≤ B) : OwnS B' w v ps := ownsRow_mono h hb
theorem reads {a : Option Addr} {n c : Nat} (h : OwnS B w (.slice a n c) ps) : ReadsS w a ps := by
  intro hz
  have h0 : 0 < ps.length := List.length_pos_iff.2 hz
  rcases h.2 with ⟨h', hh⟩ | ⟨g, cap, cur, h', hb, hh, hnc, hcm, hcs, htake⟩
  · omega
  · have hl : n = ps.length ∧ a = some ⟨g, 0, none⟩ := by simp only [Value.slice.injEq] at h'; exact ⟨h'.2.1, h'.1⟩
    obtain ⟨rfl, rfl⟩ := hl
    refine ⟨g, 0, rfl, (h.lt g rfl).2, fun i hi => ?_⟩
    have := World.ownsRow.cellAt h i (by omega)
    rw [Nat.zero_add, this]
    simp [List.getD_eq_getElem?_getD, hi, vS]
end OwnS

theorem OwnS.snoc {B : Nat} {w : World} {v : Value} {ps : List Bs} {p : Bs} {s : ByteArray} (h : w.ownsRow B 9 1 v (ps.length + 1) (ps.map vS ++ #[Value.string s].toList)) (hs : s = str p) : OwnS B w v (ps ++ [p]) := by
  unfold OwnS
  subst hs
  simpa [vS] using h

end Go.Proofs.YteegkblkfdnfiaaGreat

namespace Go.Proofs.YteegkblkfdnfiaaGreat
open Go.RowKit
set_option linter.unusedVariables false

theorem small_take_snoc (s : ByteArray) (k : Nat) (h : k < s.size) : s.data.toList.take (k + 1) = s.data.toList.take k ++ [s[k]] := by
  rw [List.take_succ_eq_append_getElem (by simpa using h)]; rfl
theorem all_take_snoc {s : ByteArray} {k : Nat} (h : k < s.size) (ha : (s.data.toList.take k).all small = true) (hc : small s[k] = true) : (s.data.toList.take (k + 1)).all small = true := by
  rw [small_take_snoc s k h]; simp [ha, hc]
theorem all_stop {s : ByteArray} {k : Nat} (h : k < s.size) (hc : small s[k] = false) : plain s.data.toList = false := by
  have : s[k] ∈ s.data.toList := Array.mem_toList_iff.2 (Array.getElem_mem (xs := s.data) (i := k) h)
  have h2 : s.data.toList.all small = false := by
    rw [List.all_eq_false]; exact ⟨_, this, by simp [hc]⟩
  simp [plain, h2]
theorem small_yes {c : UInt8} (h1 : 97 ≤ (c.toNat : Int)) (h2 : (c.toNat : Int) ≤ 122) : small c = true := decide_eq_true ⟨h1, h2⟩
theorem small_no {c : UInt8} (h : (c.toNat : Int) < 97 ∨ 122 < (c.toNat : Int)) : small c = false := decide_eq_false (by omega)
theorem plain_end {s : ByteArray} {k : Nat} (hk : s.size ≤ k) (ha : (s.data.toList.take k).all small = true) (b : Bool) (hb : b = !s.data.toList.isEmpty) : plain s.data.toList = b := by
  rw [List.take_of_length_le (by simpa using hk)] at ha
  simp [plain, ha, hb]
theorem str_ne_empty (s : ByteArray) : (!s.toList.isEmpty) = !s.data.toList.isEmpty := by rw [ByteArray.toList_eq]

set_option maxHeartbeats 400000 in
theorem l3Plain_any (s : ByteArray) (w : World) (hs : s.size ≤ 9223372036854775807) :
    Calls Tryz.prog 125 #[.string s] w fun e w' => e = .returned (.bool (plain s.data.toList)) ∧ w' = w := by
  go_enter Tryz.func125, Tryz.ntmps125
  go_wp2
  go_loop [3] (fun i => ∃ k : Nat, k ≤ s.size ∧ i = .int .i64 k ∧ (s.data.toList.take k).all small = true) (fun i => s.size - (intOf i).toNat)
  case atStart => exact ⟨0, Nat.zero_le _, rfl, rfl⟩
  case round =>
    obtain ⟨k, hk, rfl, ha⟩ := hrel
    have HA := hide ha
    clear ha
    by_cases hlt : k < s.size
    · by_cases c1 : (s[k].toNat : Int) < 97
      · have HN := hide (all_stop hlt (small_no (.inl c1)))
        go_wp2
        go_ret
        exact ⟨ret_bool HN.out.symm, rfl⟩
      · by_cases c2 : 122 < (s[k].toNat : Int)
        · have HN := hide (all_stop hlt (small_no (.inr c2)))
          go_wp2
          go_ret
          exact ⟨ret_bool HN.out.symm, rfl⟩
        · have HN := hide (all_take_snoc hlt HA.out (small_yes (by omega) (by omega)))
          go_wp2
          go_round
          case rel => exact ⟨k + 1, by omega, by go_num, HN.out⟩
          case measure => simp [intOf]; omega
    · have HN := hide (fun b hb => plain_end (s := s) (k := k) (by omega) HA.out b hb)
      go_wp2
      go_ret
      exact ⟨ret_bool (HN.out _ (str_ne_empty s)).symm, rfl⟩

set_option maxHeartbeats 400000 in
theorem isLetters_any (s : ByteArray) (w : World) (hs : s.size ≤ 9223372036854775807) :
    Calls Tryz.prog 83 #[.string s] w fun e w' => e = .returned (.bool (plain s.data.toList)) ∧ w' = w := by
  go_enter Tryz.func83, Tryz.ntmps83
  go_wp2
  go_loop [3, 6] (fun _ i => ∃ k : Nat, k ≤ s.size ∧ i = .int .i64 k ∧ (s.data.toList.take k).all small = true) (fun _ i => s.size - (intOf i).toNat)
  case atStart => exact ⟨0, Nat.zero_le _, rfl, rfl⟩
  case round =>
    obtain ⟨k, hk, rfl, ha⟩ := hrel
    have HA := hide ha
    clear ha
    by_cases hlt : k < s.size
    · by_cases c1 : (s[k].toNat : Int) < 97
      · have HN := hide (all_stop hlt (small_no (.inl c1)))
        go_wp2
        go_ret
        exact ⟨ret_bool HN.out.symm, rfl⟩
      · by_cases c2 : 122 < (s[k].toNat : Int)
        · have HN := hide (all_stop hlt (small_no (.inr c2)))
          go_wp2
          go_ret
          exact ⟨ret_bool HN.out.symm, rfl⟩
        · have HN := hide (all_take_snoc hlt HA.out (small_yes (by omega) (by omega)))
          go_wp2
          go_round
          case rel => exact ⟨k + 1, by omega, by go_num, HN.out⟩
          case measure => simp [intOf]; omega
    · have HN := hide (fun b hb => plain_end (s := s) (k := k) (by omega) HA.out b hb)
      go_wp2
      go_ret
      exact ⟨ret_bool (HN.out _ (str_ne_empty s)).symm, rfl⟩

theorem infoS : (Tryz.prog.info? 9).map (fun i => (i.zero, i.size, i.bytes)) = some (some (.string ⟨#[]⟩), 1, 16) := by kernel_rfl

end Go.Proofs.YteegkblkfdnfiaaGreat

namespace Go.Proofs.YteegkblkfdnfiaaGreat
open Go.RowKit
set_option linter.unusedVariables false

theorem str_append (a b : Bs) : str a ++ str b = str (a ++ b) := by
  apply ByteArray.ext
  simp [str]
theorem take_snoc_at {α : Type} {ps : List α} {k : Nat} {p : α} (h : ps[k]? = some p) : ps.take (k + 1) = ps.take k ++ [p] := by
  obtain ⟨hk, e⟩ := List.getElem?_eq_some_iff.1 h
  rw [List.take_succ_eq_append_getElem hk, e]
theorem tail_data (s : ByteArray) : (s.extract 1 s.size).data.toList = s.data.toList.tail := by
  rw [Lib.extract_data, List.drop_one, List.take_of_length_le (by rw [List.length_tail, ← Lib.size_eq]; exact Nat.le_refl _)]
theorem extract_le (s : ByteArray) (a b : Nat) : (s.extract a b).size ≤ s.size := by
  rw [Lib.size_eq, Lib.extract_data, Lib.size_eq s]
  simp
  omega
end Go.Proofs.YteegkblkfdnfiaaGreat

namespace Go.Proofs.YteegkblkfdnfiaaGreat
open Go.RowKit
set_option linter.unusedVariables false

theorem faultP_pos {s : ByteArray} (h : faultP s.data.toList = 0) : 1 ≤ s.size := by
  obtain ⟨ns, _, _, _, e⟩ := faultP_zero h
  have := congrArg List.length e
  rw [← Lib.size_eq] at this
  simp at this
  omega
theorem above_bad {p : Bs} (h : faultP p ≠ 0) : above p = [] := by simp [above, h]
theorem above_good {p : Bs} (h : faultP p = 0) : above p = aboveN (cutB p.tail) := by simp [above, h]
theorem above_len (p : Bs) : (above p).length ≤ 2 := by
  by_cases h : faultP p = 0
  · obtain ⟨ns, hN, _, hc, _⟩ := faultP_zero h
    rw [above_good h, aboveN_length, hc]
    have := hN.2.2.2
    omega
  · rw [above_bad h]; simp



def parC (p : Bs) : Int := if faultP p = 0 then (if above p = [] then 4 else 0) else faultP p
def parT (p : Bs) : Bs := (above p).getLastD []
def lastT (p : Bs) : Bs := if faultP p = 0 then lastN (cutB p.tail) else []

theorem getLast_at {l : List Bs} (h : l ≠ []) : l[l.length - 1]? = some (l.getLastD []) := by
  rw [List.getLastD_eq_getLast?, List.getLast?_eq_getElem?]
  have : l.length - 1 < l.length := by have := List.length_pos_iff.2 h; omega
  simp [this]
theorem par_bad {p : Bs} (h : faultP p ≠ 0) : parC p = faultP p ∧ parT p = [] := by simp [parC, parT, h, above_bad h]
theorem par_none {p : Bs} (h : faultP p = 0) (ha : aboveN (cutB p.tail) = []) : parC p = 4 ∧ parT p = [] := by
  have e := above_good h
  rw [ha] at e
  simp [parC, parT, h, e]
theorem par_good {p : Bs} (h : faultP p = 0) (ha : aboveN (cutB p.tail) ≠ []) : parC p = 0 ∧ parT p = (aboveN (cutB p.tail)).getLastD [] := by
  have e := above_good h
  exact ⟨by simp [parC, h, e, ha], by rw [parT, e]⟩


theorem last_bad {p : Bs} (h : faultP p ≠ 0) : lastT p = [] := by simp [lastT, h]
theorem last_good {p : Bs} (h : faultP p = 0) : lastT p = lastN (cutB p.tail) := by simp [lastT, h]


def isBelow (p t : Bs) : Bool := decide (t ∈ above p)
theorem isBelow_good {p t : Bs} (h : faultP p = 0) : isBelow p t = decide (faultP t = 0 ∧ belowB p t = true) := by
  simp only [isBelow, above_good h, above_iff h]


end Go.Proofs.YteegkblkfdnfiaaGreat

namespace Go.Proofs.YteegkblkfdnfiaaGreat
set_option linter.unusedVariables false

structure En where
  path : Bs
  kind : Int
  size : Int
  chunks : List Int
  deriving DecidableEq

def isDig (c : Int) : Bool := decide (0 ≤ c ∧ c ≤ 4294967295)
def formE (e : En) : Bool := decide ((1 ≤ e.kind ∧ e.kind ≤ 4) ∧ (e.kind = 1 ∨ (e.size = 0 ∧ e.chunks.length = 0)))
def sizeE (e : En) : Bool := decide (0 ≤ e.size ∧ e.size ≤ 24)
def manyE (e : En) : Bool := decide ((e.chunks.length : Int) = (e.size + 7) / 8)
def entFault (e : En) : Int :=
  if faultP e.path = 0 then (if formE e then (if sizeE e then (if manyE e then (if e.chunks.all isDig then 0 else 3) else 1) else 3) else 1) else faultP e.path
theorem entFault_path {e : En} (h : faultP e.path ≠ 0) : entFault e = faultP e.path := by simp [entFault, h]
theorem entFault_form {e : En} (h : faultP e.path = 0) (h1 : formE e = false) : entFault e = 1 := by simp [entFault, h, h1]
theorem entFault_size {e : En} (h : faultP e.path = 0) (h1 : formE e = true) (h2 : sizeE e = false) : entFault e = 3 := by simp [entFault, h, h1, h2]
theorem entFault_many {e : En} (h : faultP e.path = 0) (h1 : formE e = true) (h2 : sizeE e = true) (h3 : manyE e = false) : entFault e = 1 := by simp [entFault, h, h1, h2, h3]
theorem entFault_digs {e : En} (h : faultP e.path = 0) (h1 : formE e = true) (h2 : sizeE e = true) (h3 : manyE e = true) : entFault e = if e.chunks.all isDig then 0 else 3 := by simp [entFault, h, h1, h2, h3]

def dirK (k : Int) : Bool := decide (k = 2 ∨ k = 4)
def findE (es : List En) (p : Bs) : Option En := es.find? fun e => decide (e.path = p)
def parentP (p : Bs) : Bs := (aboveN (cutB p.tail)).getLastD []
def homeE (es : List En) (p : Bs) : Bool :=
  if parentP p = [] then true else
    match findE es (parentP p) with
    | none => false
    | some e => dirK e.kind
def lowE (prev : Option En) (e : En) : Bool :=
  match prev with
  | none => false
  | some q => Op.bytesLess e.path q.path || (e.path == q.path)
def prevE (es : List En) (i : Nat) : Option En := if i = 0 then none else es[i - 1]?
end Go.Proofs.YteegkblkfdnfiaaGreat

namespace Go.Proofs.YteegkblkfdnfiaaGreat
open Go.RowKit
set_option linter.unusedVariables false

def RdE (w : World) (a : Option Addr) (es : List En) : Prop :=
  es ≠ [] → ∃ (b off : Nat) (A : Nat → Option Addr) (C : Nat → Nat), a = some ⟨b, off, none⟩ ∧ b < w.heap.size ∧ ∀ i e, es[i]? = some e →
    w.cell? ⟨b, off + i * 4, none⟩ = some (.string (str e.path)) ∧ w.cell? ⟨b, off + i * 4 + 1, none⟩ = some (.int .i64 e.kind) ∧ w.cell? ⟨b, off + i * 4 + 2, none⟩ = some (.int .i64 e.size) ∧
    w.cell? ⟨b, off + i * 4 + 3, none⟩ = some (.slice (A i) e.chunks.length (C i)) ∧ Reads .i64 w (A i) e.chunks
theorem RdE.kept {S : Nat → Prop} {w w' : World} {a : Option Addr} {es : List En} (h : RdE w a es) (hk : Below w.heap.size w w') : RdE w' a es := by
  intro hz
  obtain ⟨b, off, A, C, e, hb, hc⟩ := h hz
  refine ⟨b, off, A, C, e, Nat.lt_of_lt_of_le hb hk.size, fun i x hx => ?_⟩
  obtain ⟨c0, c1, c2, c3, r⟩ := hc i x hx
  exact ⟨(hk.cell (p := ⟨b, off + i * 4, none⟩) hb).trans c0, (hk.cell (p := ⟨b, off + i * 4 + 1, none⟩) hb).trans c1, (hk.cell (p := ⟨b, off + i * 4 + 2, none⟩) hb).trans c2, (hk.cell (p := ⟨b, off + i * 4 + 3, none⟩) hb).trans c3, r.below hk⟩
theorem RdE.below {w w' : World} {a : Option Addr} {es : List En} (h : RdE w a es) (hk : Below w.heap.size w w') : RdE w' a es := h.kept (S := fun _ => False) hk
theorem RdE.at {w : World} {a : Option Addr} {es : List En} (h : RdE w a es) {k : Nat} (hk : k < es.length) :
    ∃ b off e x c, a = some ⟨b, off, none⟩ ∧ b < w.heap.size ∧ es[k]? = some e ∧ w.cell? ⟨b, off + k * 4, none⟩ = some (.string (str e.path)) ∧ w.cell? ⟨b, off + k * 4 + 1, none⟩ = some (.int .i64 e.kind) ∧ w.cell? ⟨b, off + k * 4 + 2, none⟩ = some (.int .i64 e.size) ∧
      w.cell? ⟨b, off + k * 4 + 3, none⟩ = some (.slice x e.chunks.length c) ∧ Reads .i64 w x e.chunks := by
  obtain ⟨b, off, A, C, e, hb, hc⟩ := h (by intro e; simp [e] at hk)
  have hx : es[k]? = some es[k] := List.getElem?_eq_getElem hk
  obtain ⟨c0, c1, c2, c3, r⟩ := hc k _ hx
  exact ⟨b, off, es[k], A k, C k, e, hb, hx, c0, c1, c2, c3, r⟩
def SmallE (es : List En) : Prop := ∀ e ∈ es, e.path.length ≤ 1048576 ∧ e.chunks.length ≤ 1048576

end Go.Proofs.YteegkblkfdnfiaaGreat

namespace Go.Proofs.YteegkblkfdnfiaaGreat
open Go.RowKit
set_option linter.unusedVariables false

def Four (w : World) (b : Nat) (u0 u1 u2 u3 : Value) : Prop := w.cell? ⟨b, 0, none⟩ = some u0 ∧ w.cell? ⟨b, 1, none⟩ = some u1 ∧ w.cell? ⟨b, 2, none⟩ = some u2 ∧ w.cell? ⟨b, 3, none⟩ = some u3
theorem Four.new (w : World) (u0 u1 u2 u3 : Value) (t : TypeId) : Four (w.alloc (.cells #[u0, u1, u2, u3] t)) w.heap.size u0 u1 u2 u3 := ⟨by simp, by simp, by simp, by simp⟩
theorem Four.lt {w : World} {b : Nat} {u0 u1 u2 u3 : Value} (h : Four w b u0 u1 u2 u3) : b < w.heap.size := World.block_lt_of_cell? w ⟨b, 0, none⟩ h.1
theorem Four.below {w w' : World} {b : Nat} {u0 u1 u2 u3 : Value} (h : Four w b u0 u1 u2 u3) (hk : Below w.heap.size w w') : Four w' b u0 u1 u2 u3 :=
  ⟨(hk.cell (p := ⟨b, 0, none⟩) h.lt).trans h.1, (hk.cell (p := ⟨b, 1, none⟩) h.lt).trans h.2.1, (hk.cell (p := ⟨b, 2, none⟩) h.lt).trans h.2.2.1, (hk.cell (p := ⟨b, 3, none⟩) h.lt).trans h.2.2.2⟩

end Go.Proofs.YteegkblkfdnfiaaGreat

namespace Go.Proofs.YteegkblkfdnfiaaGreat
open Go.RowKit Go.Shelf
set_option linter.unusedVariables false
def Tryz.cloneA_ren : Go.Shelf.Ren := ⟨fun | 316 => 135 | n => n, fun | 9 => 9 | 3 => 3 | 4 => 4 | 37 => 22 | 0 => 0 | 127 => 205 | 5 => 5 | n => n, fun | n => n⟩
theorem Tryz.cloneA : Go.Proofs.LaysM.n316 Tryz.prog Tryz.cloneA_ren := {
  mixed := by kernel_rfl
  f316 := Tryz.func135.trans (congrArg some (by kernel_rfl))
  t0 := Tryz.underlying0
  a0 := Tryz.isAgg0
  z0 := Tryz.sizeOf0
  v0 := Tryz.zeroValue0
  t3 := Tryz.underlying3
  a3 := Tryz.isAgg3
  z3 := Tryz.sizeOf3
  v3 := Tryz.zeroValue3
  t4 := Tryz.underlying4
  a4 := Tryz.isAgg4
  z4 := Tryz.sizeOf4
  v4 := Tryz.zeroValue4
  t9 := Tryz.underlying9
  a9 := Tryz.isAgg9
  z9 := Tryz.sizeOf9
  v9 := Tryz.zeroValue9
  t37 := Tryz.underlying22
  a37 := Tryz.isAgg22
  z37 := Tryz.sizeOf22
  v37 := Tryz.zeroValue22
  t127 := Tryz.underlying205
  a127 := Tryz.isAgg205
  z127 := Tryz.sizeOf205
  v127 := Tryz.zeroValue205
  t5 := Tryz.underlying5
  a5 := Tryz.isAgg5
  z5 := Tryz.sizeOf5
  v5 := Tryz.zeroValue5
  i0 := by kernel_rfl
  i3 := by kernel_rfl
  i4 := by kernel_rfl
  i5 := by kernel_rfl
  i9 := by kernel_rfl
  i37 := by kernel_rfl
  i127 := by kernel_rfl }
def Tryz.hasA_ren : Go.Shelf.Ren := ⟨fun | 110 => 244 | 109 => 265 | n => n, fun | 31 => 51 | 9 => 9 | 4 => 4 | 3 => 3 | 0 => 0 | n => n, fun | n => n⟩
theorem Tryz.hasA : Go.Proofs.Lays.n110 Tryz.prog Tryz.hasA_ren := {
  mixed := by kernel_rfl
  f109 := Tryz.func265.trans (congrArg some (by kernel_rfl))
  f110 := Tryz.func244.trans (congrArg some (by kernel_rfl))
  t0 := Tryz.underlying0
  a0 := Tryz.isAgg0
  z0 := Tryz.sizeOf0
  v0 := Tryz.zeroValue0
  t3 := Tryz.underlying3
  a3 := Tryz.isAgg3
  z3 := Tryz.sizeOf3
  v3 := Tryz.zeroValue3
  t4 := Tryz.underlying4
  a4 := Tryz.isAgg4
  z4 := Tryz.sizeOf4
  v4 := Tryz.zeroValue4
  t9 := Tryz.underlying9
  a9 := Tryz.isAgg9
  z9 := Tryz.sizeOf9
  v9 := Tryz.zeroValue9
  t31 := Tryz.underlying51
  a31 := Tryz.isAgg51
  z31 := Tryz.sizeOf51
  v31 := Tryz.zeroValue51 }
def Tryz.indexA_ren : Go.Shelf.Ren := ⟨fun | 219 => 235 | 217 => 258 | 225 => 259 | 224 => 260 | 267 => 261 | 266 => 277 | 314 => 278 | n => n, fun | 9 => 9 | 3 => 3 | 4 => 4 | 5 => 5 | 46 => 176 | 146 => 265 | 51 => 175 | n => n, fun | 1 => 0 | n => n⟩
theorem Tryz.indexA : Go.Proofs.Lays.n219 Tryz.prog Tryz.indexA_ren := {
  mixed := by kernel_rfl
  f217 := Tryz.func258.trans (congrArg some (by kernel_rfl))
  f219 := Tryz.func235.trans (congrArg some (by kernel_rfl))
  f224 := Tryz.func260.trans (congrArg some (by kernel_rfl))
  f225 := Tryz.func259.trans (congrArg some (by kernel_rfl))
  f266 := Tryz.func277.trans (congrArg some (by kernel_rfl))
  f267 := Tryz.func261.trans (congrArg some (by kernel_rfl))
  f314 := Tryz.func278.trans (congrArg some (by kernel_rfl))
  t3 := Tryz.underlying3
  a3 := Tryz.isAgg3
  z3 := Tryz.sizeOf3
  v3 := Tryz.zeroValue3
  t4 := Tryz.underlying4
  a4 := Tryz.isAgg4
  z4 := Tryz.sizeOf4
  v4 := Tryz.zeroValue4
  t5 := Tryz.underlying5
  a5 := Tryz.isAgg5
  z5 := Tryz.sizeOf5
  v5 := Tryz.zeroValue5
  t9 := Tryz.underlying9
  a9 := Tryz.isAgg9
  z9 := Tryz.sizeOf9
  v9 := Tryz.zeroValue9
  t46 := Tryz.underlying176
  a46 := Tryz.isAgg176
  z46 := Tryz.sizeOf176
  v46 := Tryz.zeroValue176
  t51 := Tryz.underlying175
  a51 := Tryz.isAgg175
  z51 := Tryz.sizeOf175
  v51 := Tryz.zeroValue175
  t146 := Tryz.underlying265
  a146 := Tryz.isAgg265
  z146 := Tryz.sizeOf265
  v146 := Tryz.zeroValue265
  g1 := by kernel_rfl }
def Tryz.prefixA_ren : Go.Shelf.Ren := ⟨fun | 103 => 103 | 210 => 146 | 206 => 196 | n => n, fun | 9 => 9 | 4 => 4 | 24 => 133 | 3 => 3 | n => n, fun | n => n⟩
theorem Tryz.prefixA : Go.Proofs.Lays.n103 Tryz.prog Tryz.prefixA_ren := {
  mixed := by kernel_rfl
  f103 := Tryz.func103.trans (congrArg some (by kernel_rfl))
  f206 := Tryz.func196.trans (congrArg some (by kernel_rfl))
  f210 := Tryz.func146.trans (congrArg some (by kernel_rfl))
  t3 := Tryz.underlying3
  a3 := Tryz.isAgg3
  z3 := Tryz.sizeOf3
  v3 := Tryz.zeroValue3
  t4 := Tryz.underlying4
  a4 := Tryz.isAgg4
  z4 := Tryz.sizeOf4
  v4 := Tryz.zeroValue4
  t9 := Tryz.underlying9
  a9 := Tryz.isAgg9
  z9 := Tryz.sizeOf9
  v9 := Tryz.zeroValue9
  t24 := Tryz.underlying133
  a24 := Tryz.isAgg133
  z24 := Tryz.sizeOf133
  v24 := Tryz.zeroValue133 }
end Go.Proofs.YteegkblkfdnfiaaGreat

namespace Go.Proofs.YteegkblkfdnfiaaGreat
open Go.RowKit
set_option linter.unusedVariables false

theorem indexOne_any (s : ByteArray) (w : World) :
    Calls Tryz.prog 235 #[.string s, .string ⟨#[47]⟩] w fun e w' => e = .returned (.int .i64 (Lib.indexByte s.data.toList 47)) ∧ w' = w :=
  Any.stringslite_Index_one Tryz.indexA s 47 w

theorem index_miss {l : Bs} (h : (47 : UInt8) ∉ l) : Lib.indexByte l 47 = -1 := by
  induction l with
  | nil => rfl
  | cons c l ih =>
    have h1 : ¬ c = 47 := fun e => h (by simp [e])
    have h2 : (47 : UInt8) ∉ l := fun e => h (by simp [e])
    simp [Lib.indexByte, h1, ih h2]
theorem index_hit {a : Bs} (b : Bs) (h : (47 : UInt8) ∉ a) : Lib.indexByte (a ++ 47 :: b) 47 = a.length := by
  induction a with
  | nil => simp [Lib.indexByte]
  | cons c a ih =>
    have h1 : ¬ c = 47 := fun e => h (by simp [e])
    have h2 : (47 : UInt8) ∉ a := fun e => h (by simp [e])
    have ih := ih h2
    simp only [List.cons_append, Lib.indexByte, ih]
    have : ((a.length : Int) == -1) = false := by simp
    simp [h1, this]

set_option maxRecDepth 100000 in
set_option maxHeartbeats 800000 in
theorem cutLite_miss (l : Bs) (w : World) (h : (47 : UInt8) ∉ l) :
    Calls Tryz.prog 197 #[.string (str l), .string ⟨#[47]⟩] w fun e w' => e = .returned (.tuple #[.string (str l), .string ⟨#[]⟩, .bool false]) ∧ ∃ n, w' = w.drewN n := by
  have HI := hide (index_miss h)
  go_enter Tryz.func197, Tryz.ntmps197
  go_wp2_with (go_at_call 235; refine (indexOne_any _ _).mono ?_; rintro e w' ⟨rfl, rfl⟩; rw [str_data, HI.out])
  go_ret3
  exact ⟨rfl, 0, rfl⟩
theorem cut_miss (l : Bs) (w : World) (h : (47 : UInt8) ∉ l) :
    Calls Tryz.prog 148 #[.string (str l), .string ⟨#[47]⟩] w fun e w' => e = .returned (.tuple #[.string (str l), .string ⟨#[]⟩, .bool false]) ∧ ∃ n, w' = w.drewN n := by
  go_enter Tryz.func148, Tryz.ntmps148
  go_wp2_with (go_at_call 197; refine (cutLite_miss _ _ h).mono ?_; rintro e w' ⟨rfl, n, rfl⟩)
  go_ret3
  exact ⟨rfl, n, rfl⟩
set_option maxRecDepth 100000 in
set_option maxHeartbeats 800000 in
theorem cutLite_hit (a b : Bs) (w : World) (h : (47 : UInt8) ∉ a) (hl : a.length ≤ 9223372036854775806) :
    Calls Tryz.prog 197 #[.string (str (a ++ 47 :: b)), .string ⟨#[47]⟩] w fun e w' => e = .returned (.tuple #[.string (str a), .string (str b), .bool true]) ∧ ∃ n, w' = w.drewN n := by
  have HI := hide (index_hit b h)
  have c0 : (0 : Int) ≤ a.length := by omega
  have c1 : (a.length : Int) ≤ ((str (a ++ 47 :: b)).size : Int) := by rw [str_size]; simp; omega
  have c2 : (a.length : Int) + 1 ≤ ((str (a ++ 47 :: b)).size : Int) := by rw [str_size]; simp; omega
  have HA := hide (show (str (a ++ 47 :: b)).extract 0 a.length = str a by rw [Lib.extract_eq, str_data]; simp [str])
  have HB := hide (show (str (a ++ 47 :: b)).extract (a.length + 1) (str (a ++ 47 :: b)).size = str b by rw [Lib.extract_eq, str_data, str_size, show (a ++ 47 :: b).drop (a.length + 1) = b by simp, List.take_of_length_le (by simp; omega)]; rfl)
  have hm : (a.length : Int) ≤ 9223372036854775806 := by omega
  generalize hx : str (a ++ 47 :: b) = x at *
  have HX := hide hx
  clear hx
  go_enter Tryz.func197, Tryz.ntmps197
  go_wp2_with (go_at_call 235; refine (indexOne_any _ _).mono ?_; rintro e w' ⟨rfl, rfl⟩; rw [← HX.out, str_data, HI.out, HX.out])
  go_region
  go_wp2
  go_ret3
  exact ⟨by rw [HA.out, HB.out]; rfl, 1, rfl⟩
theorem cut_hit (a b : Bs) (w : World) (h : (47 : UInt8) ∉ a) (hl : a.length ≤ 9223372036854775806) :
    Calls Tryz.prog 148 #[.string (str (a ++ 47 :: b)), .string ⟨#[47]⟩] w fun e w' => e = .returned (.tuple #[.string (str a), .string (str b), .bool true]) ∧ ∃ n, w' = w.drewN n := by
  go_enter Tryz.func148, Tryz.ntmps148
  go_wp2_with (go_at_call 197; refine (cutLite_hit _ _ _ h hl).mono ?_; rintro e w' ⟨rfl, n, rfl⟩)
  go_ret3
  exact ⟨rfl, n, rfl⟩

theorem prefix_yes {l r : Bs} (h : l = 47 :: r) : Lib.hasPrefix l [47] = true ∧ Lib.trimPrefix l [47] = r := by
  subst h
  have e : Lib.hasPrefix (47 :: r) [47] = true := by simp [Lib.hasPrefix]
  exact ⟨e, by simp [Lib.trimPrefix, e]⟩
theorem prefix_no {l : Bs} (h : ∀ r, l ≠ 47 :: r) : Lib.hasPrefix l [47] = false := by
  cases l with
  | nil => rfl
  | cons c r =>
    have hc : c ≠ 47 := fun e => h r (by rw [e])
    have : ((47 : UInt8) == c) = false := by simpa using Ne.symm hc
    simp only [Lib.hasPrefix, List.isPrefixOf, this, Bool.false_and]

theorem cutPrefix_yes (s : ByteArray) (r : Bs) (w : World) (h : s.data.toList = 47 :: r) :
    Calls Tryz.prog 103 #[.string s, .string ⟨#[47]⟩] w fun e w' => e = .returned (.tuple #[.string (str r), .bool true]) ∧ w' = w := by
  have := Any.strings_CutPrefix Tryz.prefixA s ⟨#[47]⟩ w
  have e1 := (prefix_yes h).1
  have e2 := (prefix_yes h).2
  simp only [e1, e2] at this
  exact this
theorem cutPrefix_no (s : ByteArray) (w : World) (h : ∀ r, s.data.toList ≠ 47 :: r) :
    Calls Tryz.prog 103 #[.string s, .string ⟨#[47]⟩] w fun e w' => (∃ x, e = .returned (.tuple #[.string x, .bool false])) ∧ w' = w := by
  have := Any.strings_CutPrefix Tryz.prefixA s ⟨#[47]⟩ w
  have e1 := prefix_no h
  simp only [e1] at this
  exact this.mono fun e w' ⟨h1, h2⟩ => ⟨⟨_, h1⟩, h2⟩

theorem clone_str (s : ByteArray) (w : World) (hl : s.size ≤ 281474976710656) :
    Calls Tryz.prog 90 #[.string s] w fun e w' => e = .returned (.string s) ∧ Below w.heap.size w w' := by
  have H := hide (fun w => Any.stringslite_Clone Tryz.cloneA s w hl)
  go_enter Tryz.func90, Tryz.ntmps90
  go_wp2_with fail
  refine (H.out _).mono ?_
  rintro e w1 ⟨rfl, hb1⟩
  go_wp2_with fail
  go_ret
  exact ⟨rfl, hb1⟩

theorem has_any (a : Option Addr) (c : Nat) (ps : List Bs) (x : ByteArray) (w : World) (h : ReadsS w a ps) (hn : ps.length ≤ 9223372036854775807) (n : Nat) (hpn : n = ps.length) :
    Calls Tryz.prog 244 #[.slice a n c, .string x] w fun e w' => e = .returned (.bool (decide (x.data.toList ∈ ps))) ∧ w' = w := by
  by_cases h0 : ps = []
  · subst h0
    subst hpn
    exact Any.slices_Contains_string_empty Tryz.hasA a c x w
  · obtain ⟨b, off, rfl, hb, hcell⟩ := h h0
    have := Any.slices_Contains_string Tryz.hasA b off n c (ps.map str) x w (by simp; omega) (by omega)
      (fun j hj => by
        have hj' : j < ps.length := by simpa using hj
        rw [hcell j hj']
        simp [List.getD_eq_getElem?_getD, hj'])
    have e : Lib.containsS ((ps.map str).take n) x = decide (x.data.toList ∈ ps) := by
      rw [List.take_of_length_le (by simp; omega), Bool.eq_iff_iff, Lib.containsS_iff]
      simp only [List.mem_map, decide_eq_true_eq]
      constructor
      · rintro ⟨p, hp, rfl⟩; rw [str_data]; exact hp
      · intro hp; exact ⟨_, hp, str_of x⟩
    rw [e] at this
    exact this

end Go.Proofs.YteegkblkfdnfiaaGreat

namespace Go.Proofs.YteegkblkfdnfiaaGreat
open Go.RowKit Go.Shelf
set_option linter.unusedVariables false
attribute [local go_sem] Oper.semAt_some

abbrev Pc := { p : Bs // p.length ≤ 2097152 }
def pcs (ps : List Pc) : List Bs := ps.map Subtype.val
theorem pcs_snoc (ps : List Pc) (x : Pc) : pcs (ps ++ [x]) = pcs ps ++ [x.1] := by simp [pcs]
theorem pcs_length (ps : List Pc) : (pcs ps).length = ps.length := by simp [pcs]

def szOf : Value → Nat
  | .string s => s.size
  | _ => 0
def bitOf : Value → Nat
  | .bool true => 1
  | _ => 0
theorem grown_drewN (w : World) (n : Nat) : w.grownBy (w.drewN n) none := ⟨rfl, rfl, rfl, Nat.le_refl _, fun _ _ _ => rfl⟩

theorem cut_cases (r : Bs) : (47 : UInt8) ∉ r ∨ ∃ a b, r = a ++ 47 :: b ∧ (47 : UInt8) ∉ a := by
  induction r with
  | nil => exact .inl (by simp)
  | cons c r ih =>
    by_cases hc : c = 47
    · exact .inr ⟨[], r, by simp [hc], by simp⟩
    · rcases ih with h | ⟨a, b, h, ha⟩
      · exact .inl (by simp [h, Ne.symm hc])
      · exact .inr ⟨c :: a, b, by simp [h], by simp [ha, Ne.symm hc]⟩

set_option maxRecDepth 100000 in
set_option maxHeartbeats 2000000 in
theorem pieces1_in (n : Nat) (l Bn n₀ : Nat) (t : Bs) (ht : t.length ≤ 2097152) (J Jx : List Pc → World → Prop) (B : Nat) (hJ : AbidesFrom B J)
    (hY : ∀ (pre : List Pc) (x : Pc) W, J pre W → pre.length < (cutB t).length → YieldAt Fence.wide (n - 1) Tryz.prog l #[.string (str x.1)] W fun e W' =>
      (e = .returned (.bool true) ∧ J (pre ++ [x]) W' ∧ Below n₀ W W') ∨ (e = .returned (.bool false) ∧ Jx (pre ++ [x]) W'))
    (W : World) (hBn : W.cell? ⟨Bn, 0, none⟩ = some (.string (str t))) (h0 : J [] W) :
    CallsIn Fence.wide n Tryz.prog 147 #[.func (.yield l) #[] #[], .pointer (some ⟨Bn, 0, none⟩)] W fun e W' => (∃ v, e = .returned v) ∧
      ((∃ ys, pcs ys = cutB t ∧ J ys W') ∨ (∃ pre, pcs pre <+: cutB t ∧ Jx pre W')) := by
  refine callsIn_of_wp Tryz.func147 rfl trivial ?_ rfl
  simp only [Tryz.ntmps147, List.size_toArray, List.length_cons, List.length_nil, Nat.reduceAdd, Nat.reduceSub, Array.replicate_succ, Array.replicate_zero, List.push_toArray, List.append_toArray, List.nil_append, List.cons_append]
  gi_wp2
  gi_loopw [3, 4] (fun r m wr => ∃ (pre : List Pc) (q : Bs) (more : Bool), r = .string (str q) ∧ m = .bool more ∧ q.length ≤ 2097152 ∧ Hid (cutB t = pcs pre ++ (if more then cutB q else [])) ∧ Hid (J pre wr)) (fun r m _ => bitOf m * (szOf r + 1))
  case atStart => exact ⟨[], t, true, rfl, rfl, ht, hide rfl, hide h0⟩
  case round =>
    obtain ⟨pre, q, more, rfl, rfl, hq, HC, HJ⟩ := hrel
    cases more with
    | false =>
      gi_wp2
      go_end0
      exact ⟨⟨_, rfl⟩, .inl ⟨pre, by have := HC.out; simpa using this.symm, HJ.out⟩⟩
    | true =>
      have HC' := hide (show cutB t = pcs pre ++ cutB q from HC.out)
      rcases cut_cases q with hm | ⟨a, b, hqe, ha⟩
      · have HE := hide (cutB_miss hm)
        have hlen : pre.length < (cutB t).length := by rw [HC'.out, HE.out]; simp [pcs]
        gi_wp2_with fail
        refine ⟨trivial, fun h => (by cases h), ?_⟩
        refine (callsIn_wide.2 (cut_miss q _ hm)).mono ?_
        rintro e w' ⟨rfl, k, rfl⟩
        obtain ⟨fn, tmps, assign, body, hy, hR⟩ := hY pre ⟨q, hq⟩ (wr.drewN k) (hJ _ _ _ none HJ.out (grown_drewN _ _) (fun r e => by cases e)) hlen
        dsimp only at hy
        gi_wp2_with fail
        refine ⟨fun h => (by cases h), hR.mono ?_⟩
        clear hR hy
        rintro e W3 (⟨rfl, hJ3, hk3⟩ | ⟨rfl, hJx3⟩)
        · have H3 := hide hJ3
          clear hJ3 hk3
          gi_wp2_with fail
          go_roundw
          case rel => exact ⟨pre ++ [⟨q, hq⟩], [], false, rfl, rfl, by simp, hide (by rw [HC'.out, HE.out, pcs_snoc]; simp), H3⟩
          case measure => simp [bitOf]
        · have H3 := hide hJx3
          clear hJx3
          gi_wp2_with fail
          refine bodyPost_ret (results_none rfl _ _ _) rfl ?_
          exact ⟨⟨_, rfl⟩, .inr ⟨pre ++ [⟨q, hq⟩], ⟨[], by rw [HC'.out, HE.out, pcs_snoc]; simp⟩, H3.out⟩⟩
      · have hql : q.length = a.length + (b.length + 1) := by rw [hqe]; simp
        have hal : a.length ≤ 2097152 := by omega
        have HE := hide (show cutB q = a :: cutB b by rw [hqe]; exact cutB_hit b ha)
        have hlen : pre.length < (cutB t).length := by rw [HC'.out, HE.out]; simp [pcs]
        have HQ := hide (cut_hit a b wr ha (by omega))
        rw [← hqe] at HQ
        have hbl : b.length < q.length := by omega
        clear hqe hql
        gi_wp2_with fail
        refine ⟨trivial, fun h => (by cases h), ?_⟩
        refine (callsIn_wide.2 HQ.out).mono ?_
        rintro e w' ⟨rfl, k, rfl⟩
        obtain ⟨fn, tmps, assign, body, hy, hR⟩ := hY pre ⟨a, hal⟩ (wr.drewN k) (hJ _ _ _ none HJ.out (grown_drewN _ _) (fun r e => by cases e)) hlen
        dsimp only at hy
        gi_wp2_with fail
        refine ⟨fun h => (by cases h), hR.mono ?_⟩
        clear hR hy
        rintro e W3 (⟨rfl, hJ3, hk3⟩ | ⟨rfl, hJx3⟩)
        · have H3 := hide hJ3
          clear hJ3 hk3
          gi_wp2_with fail
          go_roundw
          case rel => exact ⟨pre ++ [⟨a, hal⟩], b, true, rfl, rfl, by omega, hide (by rw [HC'.out, HE.out, pcs_snoc]; simp), H3⟩
          case measure => simp [bitOf, szOf, str_size]; omega
        · have H3 := hide hJx3
          clear hJx3
          gi_wp2_with fail
          refine bodyPost_ret (results_none rfl _ _ _) rfl ?_
          exact ⟨⟨_, rfl⟩, .inr ⟨pre ++ [⟨a, hal⟩], ⟨cutB b, by rw [HC'.out, HE.out, pcs_snoc]; simp⟩, H3.out⟩⟩

set_option maxHeartbeats 1000000 in
theorem piecesOf_in (s : ByteArray) (w : World) :
    Calls Tryz.prog 104 #[.string s] w fun e w' => e = .returned (.func (.func 147) #[] #[.pointer (some ⟨w.heap.size, 0, none⟩)]) ∧ w' = w.alloc (.cells #[.string s] 9) := by
  go_enter Tryz.func104, Tryz.ntmps104
  go_wp2
  go_ret
  exact ⟨rfl, rfl⟩

theorem pieces_stops (n : Nat) (Bn n₀ : Nat) (t : Bs) (ht : t.length ≤ 2097152) (w : World) (hBn : Bn < w.heap.size) (hc : w.cell? ⟨Bn, 0, none⟩ = some (.string (str t))) :
    SeqStopsK Fence.wide n Tryz.prog 147 #[.pointer (some ⟨Bn, 0, none⟩)] (fun x : Pc => #[Value.string (str x.1)]) (Below n₀) (fun ys => pcs ys = cutB t) (fun pre => pcs pre <+: cutB t) (cutB t).length w := fun l J Jx W hW hJ _ hY h0 =>
  pieces1_in n l Bn n₀ t ht J Jx _ hJ hY W ((hW.cell (p := ⟨Bn, 0, none⟩) hBn).trans hc) h0

end Go.Proofs.YteegkblkfdnfiaaGreat

