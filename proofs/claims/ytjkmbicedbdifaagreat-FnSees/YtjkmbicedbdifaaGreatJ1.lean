/-
  Texts put together: Mem PathL Strs PathM PathS PathA LayL Ents EntF EntL Bytes Cut Ints EntG EntC AppL OvrI LayP LibP Pieces.
-/
import Derived.Test.YtjkmbicedbdifaaGreatRows
import Derived.WalkKit
import Derived.WalkSpells
import Derived.WalkLawsBesides
import Derived.Deep.OwnRows
import Derived.BigQuiet
import Derived.Deep.QuietTactic
import Derived.Carry
import Derived.Lib.Bytealg
import Derived.Lib.Strings
import GoSem.Op.String
import Derived.Deep.RegionHeld3
import Derived.Handy
import Derived.Lib.SliceRun
import Derived.Deep.AppendLies
import Derived.Deep.DrawnRows
import Derived.Maps.AppendAt
import Derived.ProofKit
import Derived.Deep.RegionLaw
import Derived.Shelf.Strings.OnBuilder
import Derived.Shelf.Strconv.Clone
import Derived.Shelf.Slices.Turned
import Derived.Shelf.Strings.Search2
import Derived.Shelf.Small.Wraps
import Derived.Test.YtjkmbicedbdifaaGreatProg
import Derived.Lib.IndexLaws
import Derived.RangeFuncNested
import Derived.RangeFuncBound
import Derived.RangeFuncCalls
import Derived.RangeFuncLeaves
import Derived.RangeFuncBox
import Derived.Shelf.Abstract
import Derived.Shelf.RegionOpen
import Derived.OwnWalkIn
import Derived.TacticsInMore
import Derived.LoopNIn
import Derived.LoopIn
namespace Go.Proofs.YtjkmbicedbdifaaGreat
open Go.RowKit
set_option linter.unusedVariables false

theorem hide {p : Prop} (h : p) : Hid p := h

theorem ret_bool {a b : Bool} (h : a = b) : Ending.returned (.bool a) = .returned (.bool b) := by rw [h]
theorem ret_int {k : IntKind} {a b : Int} (h : a = b) : Ending.returned (.int k a) = .returned (.int k b) := by rw [h]

/-- The slice at address a reads as the integers zs of kind k (an empty one: nothing is known of a). -/
def Reads (k : IntKind) (w : World) (a : Option Addr) (zs : List Int) : Prop :=
  zs ≠ [] → ∃ b off, a = some ⟨b, off, none⟩ ∧ b < w.heap.size ∧ ∀ i, i < zs.length → w.cell? ⟨b, off + i, none⟩ = some (.int k (zs.getD i 0))

/-- All blocks but those of S are as they were. -/
structure Kept (S : Nat → Prop) (w w' : World) : Prop where
  os : w'.os = w.os
  tape : w'.tape = w.tape
  output : w'.output = w.output
  size : w.heap.size ≤ w'.heap.size
  block : ∀ k, k < w.heap.size → ¬ S k → w'.heap[k]? = w.heap[k]?

namespace Kept
variable {S T : Nat → Prop} {w w' w'' : World}
theorem refl (S : Nat → Prop) (w : World) : Kept S w w := ⟨rfl, rfl, rfl, Nat.le_refl _, fun _ _ _ => rfl⟩
theorem trans (h : Kept S w w') (k : Kept S w' w'') : Kept S w w'' :=
  ⟨k.os.trans h.os, k.tape.trans h.tape, k.output.trans h.output, Nat.le_trans h.size k.size, fun i hi hn => (k.block i (Nat.lt_of_lt_of_le hi h.size) hn).trans (h.block i hi hn)⟩
theorem mono (h : Kept S w w') (hs : ∀ k, k < w.heap.size → S k → T k) : Kept T w w' := ⟨h.os, h.tape, h.output, h.size, fun k hk hn => h.block k hk (fun hS => hn (hs k hk hS))⟩
theorem drew (h : Kept S w w') : Kept S w w'.drew := ⟨h.os, h.tape, h.output, h.size, h.block⟩
theorem drewN (h : Kept S w w') : ∀ n, Kept S w (w'.drewN n)
  | 0 => h
  | n + 1 => (drewN h n).drew
theorem alloc (h : Kept S w w') (o : Obj) : Kept S w (w'.alloc o) :=
  ⟨h.os, h.tape, h.output, Nat.le_trans h.size (by simp), fun k hk hn => (Below.heap_alloc _ _ _ (Nat.lt_of_lt_of_le hk h.size)).trans (h.block k hk hn)⟩
theorem setCell (h : Kept S w w') {p : Addr} (hp : p.block < w.heap.size → S p.block) (u : Value) : Kept S w (w'.setCell p u) :=
  ⟨h.os, h.tape, h.output, Nat.le_trans h.size (by simp [World.setCell]), fun k hk hn => (Below.heap_setCell _ _ _ _ (fun e => by subst e; exact hn (hp hk))).trans (h.block k hk hn)⟩
theorem cell (h : Kept S w w') {p : Addr} (hp : p.block < w.heap.size) (hn : ¬ S p.block) : w'.cell? p = w.cell? p := World.cell?_of_block (w := w) (h.block _ hp hn)
theorem frozen (h : Kept S w w') {p : Addr} (hp : p.block < w.heap.size) (hn : ¬ S p.block) : w'.frozen? p = w.frozen? p := World.frozen?_of_block (w := w) (h.block _ hp hn)
theorem below (h : Kept S w w') {B : Nat} (hB : B ≤ w.heap.size) (hS : ∀ k, k < B → ¬ S k) : Below B w w' := ⟨h.os, h.tape, h.output, h.size, fun k hk => h.block k (by omega) (hS k hk)⟩
/-- A step that turns blocks of T alone, none of which was there at first. -/
theorem trans_own (h : Kept S w w') (k : Kept T w' w'') (hn : ∀ b, b < w.heap.size → ¬ T b) : Kept S w w'' :=
  ⟨k.os.trans h.os, k.tape.trans h.tape, k.output.trans h.output, Nat.le_trans h.size k.size, fun i hi hs => (k.block i (Nat.lt_of_lt_of_le hi h.size) (hn i hi)).trans (h.block i hi hs)⟩
theorem of_below (h : Below w.heap.size w w') : Kept S w w' := ⟨h.os, h.tape, h.output, h.size, fun k hk _ => h.block k hk⟩
end Kept

theorem Kept.two (w : World) (b i j : Nat) (u v : Value) : Kept (fun x => x = b) w ((w.setCell ⟨b, i, none⟩ u).setCell ⟨b, j, none⟩ v) :=
  Kept.setCell (S := fun x => x = b) (p := ⟨b, j, none⟩) (Kept.setCell (S := fun x => x = b) (p := ⟨b, i, none⟩) (Kept.refl _ w) (fun _ => rfl) u) (fun _ => rfl) v

/-- The first two cells of a block. -/
def Two (w : World) (b : Nat) (u v : Value) : Prop := w.cell? ⟨b, 0, none⟩ = some u ∧ w.cell? ⟨b, 1, none⟩ = some v
theorem Two.lt {w : World} {b : Nat} {u v : Value} (h : Two w b u v) : b < w.heap.size := World.block_lt_of_cell? w ⟨b, 0, none⟩ h.1
theorem Two.kept {S : Nat → Prop} {w w' : World} {b : Nat} {u v : Value} (h : Two w b u v) (hk : Kept S w w') (hn : ¬ S b) : Two w' b u v :=
  ⟨(hk.cell (p := ⟨b, 0, none⟩) h.lt hn).trans h.1, (hk.cell (p := ⟨b, 1, none⟩) h.lt hn).trans h.2⟩
theorem Two.below {w w' : World} {b : Nat} {u v : Value} (h : Two w b u v) (hk : Below w.heap.size w w') : Two w' b u v :=
  h.kept (S := fun _ => False) (Kept.of_below hk) id
theorem Two.new (w : World) (u v : Value) (t : TypeId) : Two (w.alloc (.cells #[u, v] t)) w.heap.size u v := ⟨by simp, by simp⟩
/-- A result's block of two cells: it may be written. -/
def Box (w : World) (b : Nat) (u v : Value) : Prop := Two w b u v ∧ w.frozen? ⟨b, 0, none⟩ = false ∧ w.frozen? ⟨b, 1, none⟩ = false
theorem Box.kept {S : Nat → Prop} {w w' : World} {b : Nat} {u v : Value} (h : Box w b u v) (hk : Kept S w w') (hn : ¬ S b) : Box w' b u v :=
  ⟨h.1.kept hk hn, (hk.frozen (p := ⟨b, 0, none⟩) h.1.lt hn).trans h.2.1, (hk.frozen (p := ⟨b, 1, none⟩) h.1.lt hn).trans h.2.2⟩
theorem Box.below {w w' : World} {b : Nat} {u v : Value} (h : Box w b u v) (hk : Below w.heap.size w w') : Box w' b u v :=
  h.kept (S := fun _ => False) (Kept.of_below hk) id
theorem Box.new (w : World) (u v : Value) (t : TypeId) : Box (w.alloc (.cells #[u, v] t)) w.heap.size u v := ⟨Two.new w u v t, by simp, by simp⟩
theorem below_alloc (w : World) (o : Obj) : Below w.heap.size w (w.alloc o) := (Below.refl _ _).alloc (Nat.le_refl _) _
theorem below_next {w w' w'' : World} (h : Below w.heap.size w w') (k : Below w'.heap.size w' w'') : Below w.heap.size w w'' := h.trans (k.mono h.size)

theorem Reads.kept {k : IntKind} {S : Nat → Prop} {w w' : World} {a : Option Addr} {zs : List Int} (h : Reads k w a zs) (hk : Kept S w w') (hn : zs ≠ [] → ∀ x, a = some x → ¬ S x.block) : Reads k w' a zs := by
  intro hz
  obtain ⟨b, off, rfl, hb, hc⟩ := h hz
  exact ⟨b, off, rfl, Nat.lt_of_lt_of_le hb hk.size, fun i hi => (hk.cell (p := ⟨b, off + i, none⟩) hb (hn hz ⟨b, off, none⟩ rfl)).trans (hc i hi)⟩

theorem Reads.below {k : IntKind} {w w' : World} {a : Option Addr} {zs : List Int} (h : Reads k w a zs) (hk : Below w.heap.size w w') : Reads k w' a zs :=
  h.kept (S := fun _ => False) (Kept.of_below hk) (fun _ _ _ => id)

theorem Reads.row {k : IntKind} {w : World} {b : Nat} {t : TypeId} {n : Nat} {f : Nat → Value} {zs : List Int} (h : w.rowIs b t n f) (hn : zs.length ≤ n) (hf : ∀ i, i < zs.length → f i = .int k (zs.getD i 0)) : Reads k w (some ⟨b, 0, none⟩) zs :=
  fun _ => ⟨b, 0, rfl, h.lt, fun i hi => by rw [Nat.zero_add, h.cell (by omega), hf i hi]⟩

theorem rowIs_kept {S : Nat → Prop} {w w' : World} {b : Nat} {t : TypeId} {n : Nat} {f : Nat → Value} (h : w.rowIs b t n f) (hk : Kept S w w') (hn : ¬ S b) : w'.rowIs b t n f := h.of_block (hk.block b h.lt hn)

/-- The bytes of a list. -/
def U8 (zs : List Int) : Prop := ∀ z ∈ zs, 0 ≤ z ∧ z ≤ 255
theorem U8.get {zs : List Int} (h : U8 zs) (i : Nat) : 0 ≤ zs.getD i 0 ∧ zs.getD i 0 ≤ 255 := by
  by_cases hi : i < zs.length
  · have e : zs.getD i 0 = zs[i] := by simp [List.getD_eq_getElem?_getD, hi]
    rw [e]; exact h _ (List.getElem_mem hi)
  · have e : zs.getD i 0 = 0 := by simp [List.getD_eq_getElem?_getD, List.getElem?_eq_none (Nat.le_of_not_lt hi)]
    rw [e]; omega

theorem reads_of_row {W : World} {x : Addr} {l c : Nat} {zs : List Int} (hz : zs.length = c) (hl : l ≤ c) (hm : c ≤ maxLen) (hcell : ∀ i, i < zs.length → W.cell? (x.add i) = some (.int .u8 (zs.getD i 0))) (hwz : ∀ n ∈ zs, (Lit.int .u8 n).wf = true) :
    ∃ ys : List Int, ys.length = l ∧ Reads .u8 W (some x) ys ∧ U8 ys ∧ ys.length ≤ maxLen := by
  have hlen : (zs.take l).length = l := by simp; omega
  refine ⟨zs.take l, hlen, ?_, ?_, by omega⟩
  · intro hne
    have h0 : 0 < l := by
      rcases Nat.eq_zero_or_pos l with h | h
      · subst h; exact absurd rfl hne
      · exact h
    obtain ⟨b, off, spot⟩ := x
    have hc := hcell 0 (by omega)
    have hspot : spot = none := by simpa [Addr.add] using World.cell?_spot hc
    subst hspot
    refine ⟨b, off, rfl, World.block_lt_of_cell? W _ (by simpa [Addr.add] using hc), fun i hi => ?_⟩
    have := hcell i (by omega)
    have e : (zs.take l).getD i 0 = zs.getD i 0 := by
      have h2 : i < l := by omega
      simp [List.getD_eq_getElem?_getD, h2]
    rw [e]
    have ea : (⟨b, off, none⟩ : Addr).add i = ⟨b, off + i, none⟩ := by unfold Addr.add; split <;> simp_all
    rw [ea] at this
    exact this
  · intro z hz'
    have := hwz z (List.mem_of_mem_take hz')
    simp [Lit.wf, IntKind.min, IntKind.max, IntKind.signed, IntKind.bits] at this
    omega

theorem bcell {W w1 : World} {B : Nat} (hb : Below B W w1) : (∀ b o, b < B → w1.cell? ⟨b, o, none⟩ = W.cell? ⟨b, o, none⟩) ∧ (∀ b o, b < B → w1.frozen? ⟨b, o, none⟩ = W.frozen? ⟨b, o, none⟩) :=
  ⟨fun b o h => hb.cell (p := ⟨b, o, none⟩) h, fun b o h => hb.frozen (p := ⟨b, o, none⟩) h⟩


theorem row_step {wr : World} {B : Nat} {t : TypeId} {n k : Nat} {f z : Nat → Value} (hrow : wr.rowIs B t n (fun j => if j < k then f j else z j)) :
    (wr.setCell ⟨B, k, none⟩ (f k)).rowIs B t n (fun j => if j < k + 1 then f j else z j) :=
  (hrow.set k (f k)).congr (fun i hi => by
    by_cases e : i = k
    · subst e; simp
    · by_cases e2 : i < k
      · simp [e, e2, Nat.lt_succ_of_lt e2]
      · have : ¬ i < k + 1 := by omega
        simp [e, e2, this])


theorem row_step2 {wr : World} {B : Nat} {t : TypeId} {n k : Nat} {f z : Nat → Value} {v : Value} (hrow : wr.rowIs B t n (fun j => if j < k then f j else z j)) (hv : v = f k) :
    (wr.setCell ⟨B, k, none⟩ v).rowIs B t n (fun j => if j < k + 1 then f j else z j) := by rw [hv]; exact row_step hrow

theorem cell_set_same {w : World} {a : Addr} {v u : Value} (h : w.cell? a = some u) : (w.setCell a v).cell? a = some v :=
  World.cell?_setCell_same' w a v (by rw [h]; rfl)
theorem cell_set_other {w : World} {a b : Addr} {v : Value} (h : a ≠ b) : (w.setCell a v).cell? b = w.cell? b := by
  apply World.cell?_setCell_other; exact h
theorem cell_set_far {w : World} {b o b' o' : Nat} {v u : Value} (h : b ≠ b') (hc : w.cell? ⟨b', o', none⟩ = some u) : (w.setCell ⟨b, o, none⟩ v).cell? ⟨b', o', none⟩ = some u :=
  (World.cell?_of_block (a := ⟨b', o', none⟩) (w := w) (Below.heap_setCell w ⟨b, o, none⟩ v b' (fun e => h e.symm))).trans hc

/-- append(out, x): x laid in a block of its own, out owned: the law at that very world. -/
theorem wpList_append_one {P : Program} {wr : World} {news : Array Value} {ops : Array Oper} {rest : List Oper} {o : Oper} {a : Act} {Q : Exit → Act → World → Prop} (hgd : o.guard = none) (s x : Operand) (t : TypeId)
    (ho : o.op = .call { callee := .builtin .append, args := #[s, x], argTypes := #[t, t] })
    (base : Nat) (e : TypeId) (i : TypeInfo) (z : Value) (size bytes : Nat) (ht : P.underlying t = some (.slice e)) (hi : P.info? e = some i) (hz : i.zero = some z)
    (hsize : i.size = size) (hby : i.bytes = bytes) (hzs : z.cells.size = size) (hsz : 0 < size)
    (v : Value) (n : Nat) (xs : List Value) (hs : a.eval s = v) (hown : wr.ownsRow base e size v n xs)
    (hx : a.eval x = .slice (some ⟨wr.heap.size, 0, none⟩) 1 1) (hl : news.size = size) (h1 : ∀ u ∈ news.toList, u.oneCell' = true)
    (h63 : n + 1 ≤ maxLen) (hbytes : (n + 1) * bytes ≤ 140737488355328) (hbase : base ≤ wr.heap.size)
    (h : ∀ v' w', w'.ownsRow base e size v' (n + 1) (xs ++ news.toList) → Kept (fun b => v.ownBlock = some b) wr w' → wpList P ops Q rest (a.put o.dst v') w') :
    wpList P ops Q (o :: rest) a (wr.alloc (.cells news e)) := by
  refine wpList_append_own _ hgd s x t ho base e i z size bytes ht hi hz hsize hby hzs hsz v n xs hs (hown.alloc _) ⟨wr.heap.size, 0, none⟩ 1 1 news.toList hx (by simp [hl]) ?_ h1 h63 hbytes (by simp; omega) ?_
  · intro j u hj
    have hadd : (⟨wr.heap.size, 0, none⟩ : Addr).add j = ⟨wr.heap.size, j, none⟩ := by unfold Addr.add; split <;> simp_all
    rw [hadd, cell_of_row _ wr.heap.size j news e (0, 0) (heap_alloc_new wr _)]
    simpa using hj
  · intro v' w' ho' hg _
    refine h v' w' ho' ⟨hg.os, hg.tape, hg.output, Nat.le_trans (by simp) hg.size, fun k hk hn => ?_⟩
    rw [hg.block k (by simp; omega) (fun e => hn e.symm)]
    exact Below.heap_alloc _ _ _ hk

theorem Kept.below_own {w w' wr : World} {B : Nat} {v : Value} {e : TypeId} {size n : Nat} {xs : List Value} (hb : Below B w wr) (hB : B ≤ wr.heap.size) (hown : wr.ownsRow B e size v n xs) (hk : Kept (fun b => v.ownBlock = some b) wr w') : Below B w w' :=
  hb.trans (hk.below hB (fun k hk' he => by have := (hown.lt k he).1; omega))

theorem ownsRow_ints {w : World} {base : Nat} {e : TypeId} {v : Value} {k : IntKind} {n : Nat} {zs : List Int} (h : w.ownsRow base e 1 v n (zs.map (Value.int k))) (hn : n = zs.length) (hz : 0 < n) :
    ∃ g cap, v = .slice (some ⟨g, 0, none⟩) n cap ∧ base ≤ g ∧ g < w.heap.size ∧ (∀ i, i < n → w.cell? ⟨g, i, none⟩ = some (.int k (zs.getD i 0))) ∧ ∀ i, w.frozen? ⟨g, i, none⟩ = false := by
  obtain ⟨h1, h2⟩ := h
  rcases h2 with ⟨_, h0⟩ | ⟨g, cap, cur, rfl, hg, hh, hc, hm, hs, ht⟩
  · omega
  · refine ⟨g, cap, rfl, hg, (Array.getElem?_eq_some_iff.1 hh).1, fun i hi => ?_, fun i => by simp [World.frozen?, hh]⟩
    rw [cell_of_row w g i cur e (0, 0) hh]
    have e1 : (cur.toList.take (n * 1))[i]? = (zs.map (Value.int k))[i]? := by rw [ht]
    rw [List.getElem?_take, if_pos (by omega)] at e1
    have hi2 : i < zs.length := by omega
    simp [hi2] at e1
    simpa [List.getD_eq_getElem?_getD, hi2] using e1

theorem ownsRow_kept {S : Nat → Prop} {w w' : World} {base : Nat} {e : TypeId} {size : Nat} {v : Value} {n : Nat} {xs : List Value} (h : w.ownsRow base e size v n xs) (hk : Kept S w w') (hn : ∀ b, v.ownBlock = some b → ¬ S b) : w'.ownsRow base e size v n xs := by
  refine ⟨h.1, ?_⟩
  rcases h.2 with hz | ⟨g, cap, cur, rfl, hb, hgg, rest⟩
  · exact .inl hz
  · refine .inr ⟨g, cap, cur, rfl, hb, ?_, rest⟩
    rw [hk.block g (Array.getElem?_eq_some_iff.1 hgg).1 (hn g rfl)]
    exact hgg
theorem ownsRow_below {w w' : World} {base : Nat} {e : TypeId} {size : Nat} {v : Value} {n : Nat} {xs : List Value} (h : w.ownsRow base e size v n xs) (hk : Below w.heap.size w w') : w'.ownsRow base e size v n xs :=
  ownsRow_kept (S := fun _ => False) h (Kept.of_below hk) (fun _ _ => id)
theorem ownsRow_mono {w : World} {base base' : Nat} {e : TypeId} {size : Nat} {v : Value} {n : Nat} {xs : List Value} (h : w.ownsRow base e size v n xs) (hb : base' ≤ base) : w.ownsRow base' e size v n xs := by
  refine ⟨h.1, ?_⟩
  rcases h.2 with hz | ⟨g, cap, cur, hv, hg, rest⟩
  · exact .inl hz
  · exact .inr ⟨g, cap, cur, hv, by omega, rest⟩
theorem ownsRow_shape {w : World} {base : Nat} {e : TypeId} {size : Nat} {v : Value} {n : Nat} {xs : List Value} (h : w.ownsRow base e size v n xs) : ∃ a c, v = .slice a n c := by
  rcases h.2 with ⟨rfl, rfl⟩ | ⟨g, cap, cur, rfl, _⟩
  · exact ⟨_, _, rfl⟩
  · exact ⟨_, _, rfl⟩
/-- Rows of two element types lie in two blocks. -/
theorem ownsRow_apart {w : World} {b1 b2 : Nat} {e1 e2 : TypeId} {s1 s2 : Nat} {v1 v2 : Value} {n1 n2 : Nat} {x1 x2 : List Value} (h1 : w.ownsRow b1 e1 s1 v1 n1 x1) (h2 : w.ownsRow b2 e2 s2 v2 n2 x2) (he : e1 ≠ e2) {g : Nat} (hg1 : v1.ownBlock = some g) (hg2 : v2.ownBlock = some g) : False := by
  rcases h1.2 with ⟨rfl, _⟩ | ⟨g1, c1, cur1, rfl, _, hh1, _⟩
  · simp [Value.ownBlock] at hg1
  · rcases h2.2 with ⟨rfl, _⟩ | ⟨g2, c2, cur2, rfl, _, hh2, _⟩
    · simp [Value.ownBlock] at hg2
    · simp [Value.ownBlock] at hg1 hg2
      subst hg1 hg2
      rw [hh1] at hh2
      simp at hh2
      exact he hh2.2

/-- The slice at address a reads as the integers zs, and its cells may be written. -/
def Own (k : IntKind) (w : World) (a : Option Addr) (zs : List Int) : Prop :=
  zs ≠ [] → ∃ b off, a = some ⟨b, off, none⟩ ∧ b < w.heap.size ∧ ∀ i, i < zs.length → w.cell? ⟨b, off + i, none⟩ = some (.int k (zs.getD i 0)) ∧ w.frozen? ⟨b, off + i, none⟩ = false
/-- The block of an address. -/
def blkOf (a : Option Addr) (b : Nat) : Prop := a.map Addr.block = some b

theorem Own.reads {k : IntKind} {w : World} {a : Option Addr} {zs : List Int} (h : Own k w a zs) : Reads k w a zs := by
  intro hz
  obtain ⟨b, off, e, hb, hc⟩ := h hz
  exact ⟨b, off, e, hb, fun i hi => (hc i hi).1⟩
theorem Own.kept {k : IntKind} {S : Nat → Prop} {w w' : World} {a : Option Addr} {zs : List Int} (h : Own k w a zs) (hk : Kept S w w') (hn : ∀ b, blkOf a b → ¬ S b) : Own k w' a zs := by
  intro hz
  obtain ⟨b, off, rfl, hb, hc⟩ := h hz
  have hnb : ¬ S b := hn b rfl
  exact ⟨b, off, rfl, Nat.lt_of_lt_of_le hb hk.size, fun i hi => ⟨(hk.cell (p := ⟨b, off + i, none⟩) hb hnb).trans (hc i hi).1, (hk.frozen (p := ⟨b, off + i, none⟩) hb hnb).trans (hc i hi).2⟩⟩
theorem Own.below {k : IntKind} {w w' : World} {a : Option Addr} {zs : List Int} (h : Own k w a zs) (hk : Below w.heap.size w w') : Own k w' a zs :=
  h.kept (S := fun _ => False) (Kept.of_below hk) (fun _ _ => id)
theorem Own.row {k : IntKind} {w : World} {b : Nat} {t : TypeId} {n : Nat} {f : Nat → Value} {zs : List Int} (h : w.rowIs b t n f) (hn : zs.length ≤ n) (hf : ∀ i, i < zs.length → f i = .int k (zs.getD i 0)) : Own k w (some ⟨b, 0, none⟩) zs :=
  fun _ => ⟨b, 0, rfl, h.lt, fun i hi => ⟨by rw [Nat.zero_add, h.cell (by omega), hf i hi], h.frozen _⟩⟩

/-- Every row of cells is a row of as many cells of the same type. -/
def SameShape (w w' : World) : Prop := ∀ (g : Nat) (cur : Array Value) (t : TypeId), w.heap[g]? = some (.cells cur t (0, 0)) → ∃ cur' : Array Value, w'.heap[g]? = some (.cells cur' t (0, 0)) ∧ cur'.size = cur.size
theorem SameShape.refl (w : World) : SameShape w w := fun _ cur _ h => ⟨cur, h, rfl⟩
theorem SameShape.trans {w w' w'' : World} (h : SameShape w w') (k : SameShape w' w'') : SameShape w w'' := fun g cur t e => by
  obtain ⟨c1, e1, s1⟩ := h g cur t e
  obtain ⟨c2, e2, s2⟩ := k g c1 t e1
  exact ⟨c2, e2, s2.trans s1⟩
theorem SameShape.setCell {w w' : World} (h : SameShape w w') (b o : Nat) (v : Value) : SameShape w (w'.setCell ⟨b, o, none⟩ v) := by
  refine h.trans fun g cur t e => ?_
  by_cases hg : g = b
  · subst hg
    exact ⟨cur.setIfInBounds o v, heap_setCell_same w' g o cur t v e, by simp⟩
  · exact ⟨cur, (heap_setCell_other w' ⟨b, o, none⟩ g v hg).trans e, rfl⟩
theorem SameShape.drewN {w w' : World} (h : SameShape w w') (n : Nat) : SameShape w (w'.drewN n) := h

/-- A row whose cells have turned, and nothing else of it. -/
theorem own_back {w w' : World} {B : Nat} {e : TypeId} {g n cap : Nat} {xs ys : List Value} (h : w.ownsRow B e 1 (.slice (some ⟨g, 0, none⟩) n cap) n xs) (hs : SameShape w w') (hy : ys.length = n) (hc : ∀ i, i < n → w'.cell? ⟨g, i, none⟩ = ys[i]?) :
    w'.ownsRow B e 1 (.slice (some ⟨g, 0, none⟩) n cap) n ys := by
  refine ⟨by omega, .inr ?_⟩
  rcases h.2 with ⟨h', _⟩ | ⟨g', cap', cur, h', hb, hh, hnc, hcm, hcs, htake⟩
  · simp at h'
  · simp only [Value.slice.injEq, Option.some.injEq, Addr.mk.injEq, and_true, true_and] at h'
    obtain ⟨rfl, rfl⟩ := h'
    obtain ⟨cur', e', s'⟩ := hs g cur e hh
    refine ⟨g, cap, cur', rfl, hb, e', hnc, hcm, by omega, ?_⟩
    apply List.ext_getElem?
    intro i
    by_cases hi : i < n
    · have := hc i hi
      rw [cell_of_row w' g i cur' e (0, 0) e'] at this
      rw [List.getElem?_take, if_pos (by omega), ← this]
      simp
    · rw [List.getElem?_take, if_neg (by omega), List.getElem?_eq_none (by omega)]

theorem ownsRow_of_row {w : World} {B b : Nat} {t : TypeId} {k : IntKind} {zs : List Int} (h : w.rowIs b t zs.length (fun i => .int k (zs.getD i 0))) (hb : B ≤ b) (hm : zs.length ≤ maxLen) :
    w.ownsRow B t 1 (.slice (some ⟨b, 0, none⟩) zs.length zs.length) zs.length (zs.map (Value.int k)) := by
  obtain ⟨c, hh, hs, hc⟩ := h
  refine ⟨by simp, .inr ⟨b, zs.length, c, rfl, hb, hh, Nat.le_refl _, hm, by omega, ?_⟩⟩
  apply List.ext_getElem?
  intro i
  by_cases hi : i < zs.length
  · rw [List.getElem?_take, if_pos (by omega)]
    have := hc i hi
    simp [List.getD_eq_getElem?_getD, hi] at this ⊢
    exact this
  · rw [List.getElem?_take, if_neg (by omega), List.getElem?_eq_none (by simpa using hi)]

/-- What is written into a list of n cells of kind u8, from k on. -/
def marks (k : Int) (n : Nat) : List Int := (List.range n).map fun (i : Nat) => (k + i) % 256
theorem marks_length (k : Int) (n : Nat) : (marks k n).length = n := by simp [marks]
theorem marks_getD (k : Int) (n i : Nat) (h : i < n) : (marks k n).getD i 0 = (k + i) % 256 := by simp [marks, List.getD_eq_getElem?_getD, h]

theorem take_eq_step {xs ys : List Int} {k : Nat} (h1 : k < xs.length) (h2 : k < ys.length) (h : xs.take k = ys.take k) (e : xs.getD k 0 = ys.getD k 0) : xs.take (k + 1) = ys.take (k + 1) := by
  rw [List.take_succ_eq_append_getElem h1, List.take_succ_eq_append_getElem h2, h]
  simp [List.getD_eq_getElem?_getD, h1, h2] at e
  rw [e]
theorem ne_of_getD {xs ys : List Int} {k : Nat} (e : xs.getD k 0 ≠ ys.getD k 0) : (xs == ys) = false := by
  simp only [beq_eq_false_iff_ne]
  intro h
  exact e (by rw [h])
theorem eq_of_take {xs ys : List Int} {k : Nat} (hk : xs.length ≤ k) (hk2 : ys.length ≤ k) (h : xs.take k = ys.take k) : (xs == ys) = true := by
  rw [List.take_of_length_le hk, List.take_of_length_le hk2] at h
  simp [h]


/-- A world that is of Inv. -/
structure InW (Inv : World → Prop) where
  val : World
  ok : Inv val
/-- A region that draws its order, each operation of which yields one value in every world of Inv and leaves one of Inv: one walk of the text's order serves. -/
theorem wp_region_inv {P : Program} {Inv : World → Prop} {id : Nat} {Q : Exit → Act → World → Prop} {a : Act} {w : World} {l : List Oper} (hm : P.follows .mixedOrders = true) (hB : Region.lexB .any l.toArray = true) (h0 : Inv w.drew)
    (h : wpQuiet P l.toArray (fun w' => ∃ u : InW Inv, w' = u.val) (fun a' => ∀ w', (∃ u : InW Inv, w' = u.val) → Q .normal a' w') l a) : (Code.region id l.toArray true).wp P Q a w :=
  wp_region_quiet (C := fun w' => ∃ u : InW Inv, w' = u.val) hm hB ⟨⟨_, h0⟩, rfl⟩ (by simpa using h)
theorem calls_inv {P : Program} {Inv : World → Prop} {f : FuncId} {args : Array Value} {w : World} {v : Value} (h : Calls P f args w fun e w' => e = .returned v ∧ Inv w') :
    Calls P f args w fun e w'' => e = .returned v ∧ ∃ u : InW Inv, w'' = u.val :=
  h.mono fun _ w' ⟨he, hi⟩ => ⟨he, ⟨⟨w', hi⟩, rfl⟩⟩

theorem ownsRow_cap {w : World} {base : Nat} {e : TypeId} {size : Nat} {a : Option Addr} {n c : Nat} {xs : List Value} (h : w.ownsRow base e size (.slice a n c) n xs) : n ≤ c := by
  rcases h.2 with ⟨h', rfl⟩ | ⟨g, cap, cur, h', _, _, hc, _⟩
  · omega
  · simp only [Value.slice.injEq, true_and] at h'
    omega

/-- How many cells stand ahead of slice i. -/
def ahead (P : Nat → List Int) : Nat → Nat
  | 0 => 0
  | i + 1 => ahead P i + (P i).length

theorem ahead_le (P : Nat → List Int) {i j : Nat} (h : i ≤ j) : ahead P i ≤ ahead P j := by
  induction j with
  | zero => have : i = 0 := by omega
            subst this; exact Nat.le_refl _
  | succ j ih =>
    by_cases e : i = j + 1
    · subst e; exact Nat.le_refl _
    · have := ih (by omega)
      simp only [ahead]; omega

theorem ownsRow_own {w : World} {B : Nat} {e : TypeId} {k : IntKind} {a : Option Addr} {n c : Nat} {zs : List Int} (h : w.ownsRow B e 1 (.slice a n c) n (zs.map (Value.int k))) (hn : n = zs.length) : Own k w a zs := by
  intro hz
  have h0 : 0 < n := by rw [hn]; exact List.length_pos_iff.2 hz
  rcases h.2 with ⟨h', _⟩ | ⟨g, cap, cur, h', hb, hh, hnc, hcm, hcs, htake⟩
  · simp only [Value.slice.injEq] at h'
    omega
  · simp only [Value.slice.injEq, true_and] at h'
    obtain ⟨rfl, rfl⟩ := h'
    refine ⟨g, 0, rfl, (h.lt g rfl).2, fun i hi => ⟨?_, h.frozenAt _⟩⟩
    rw [Nat.zero_add, h.cellAt i (by omega)]
    simp [List.getD_eq_getElem?_getD, hi]

end Go.Proofs.YtjkmbicedbdifaaGreat

namespace Go.Proofs.YtjkmbicedbdifaaGreat
set_option linter.unusedVariables false

abbrev Bs := List UInt8
def str (l : Bs) : ByteArray := ⟨l.toArray⟩
theorem str_data (l : Bs) : (str l).data.toList = l := by simp [str]
theorem str_size (l : Bs) : (str l).size = l.length := by simp [str, ByteArray.size]
theorem str_of (s : ByteArray) : str s.data.toList = s := by simp [str]
theorem str_inj {a b : Bs} (h : str a = str b) : a = b := by
  have := congrArg (fun s : ByteArray => s.data.toList) h
  simpa [str_data] using this
theorem str_eq_iff {a b : Bs} : str a = str b ↔ a = b := ⟨str_inj, fun h => by rw [h]⟩

/-- Cut at each stroke. -/
def cutB : Bs → List Bs
  | [] => [[]]
  | c :: l => if c = 47 then [] :: cutB l else
    match cutB l with
    | [] => [[c]]
    | p :: ps => (c :: p) :: ps
/-- A stroke ahead of each. -/
def joinB : List Bs → Bs
  | [] => []
  | n :: ns => 47 :: (n ++ joinB ns)

theorem cutB_ne (l : Bs) : cutB l ≠ [] := by
  cases l with
  | nil => simp [cutB]
  | cons c l =>
    simp only [cutB]
    split
    · simp
    · split <;> simp
theorem cutB_stroke (l : Bs) : cutB (47 :: l) = [] :: cutB l := by simp [cutB]
theorem cutB_other {c : UInt8} (h : c ≠ 47) {l : Bs} {p : Bs} {ps : List Bs} (e : cutB l = p :: ps) : cutB (c :: l) = (c :: p) :: ps := by
  simp [cutB, h, e]
theorem cutB_head (l : Bs) : ∃ p ps, cutB l = p :: ps := by
  cases e : cutB l with
  | nil => exact absurd e (cutB_ne l)
  | cons p ps => exact ⟨p, ps, rfl⟩

theorem cutB_miss {l : Bs} (h : (47 : UInt8) ∉ l) : cutB l = [l] := by
  induction l with
  | nil => rfl
  | cons c l ih =>
    have h1 : c ≠ 47 := fun e => h (by simp [e])
    have h2 : (47 : UInt8) ∉ l := fun e => h (by simp [e])
    exact cutB_other h1 (ih h2)
theorem cutB_hit {a : Bs} (b : Bs) (h : (47 : UInt8) ∉ a) : cutB (a ++ 47 :: b) = a :: cutB b := by
  induction a with
  | nil => exact cutB_stroke b
  | cons c a ih =>
    have h1 : c ≠ 47 := fun e => h (by simp [e])
    have h2 : (47 : UInt8) ∉ a := fun e => h (by simp [e])
    exact cutB_other h1 (ih h2)

/-- One byte more, at the end. -/
theorem cutB_snoc : ∀ (l : Bs) (c : UInt8) (o : List Bs) (x : Bs), cutB l = o ++ [x] → cutB (l ++ [c]) = if c = 47 then o ++ [x] ++ [[]] else o ++ [x ++ [c]]
  | [], c, o, x, h => by
    have e : o = [] ∧ x = [] := by
      cases o with
      | nil => simpa [cutB, eq_comm] using h
      | cons a o => simp [cutB] at h
    obtain ⟨rfl, rfl⟩ := e
    by_cases hc : c = 47
    · subst hc; simp [cutB]
    · simp [cutB, hc]
  | d :: l, c, o, x, h => by
    by_cases hd : d = 47
    · subst hd
      rw [cutB_stroke] at h
      cases o with
      | nil =>
        simp at h
        exact absurd h.2 (cutB_ne l)
      | cons a o =>
        simp at h
        obtain ⟨rfl, h⟩ := h
        have ih := cutB_snoc l c o x h
        simp only [List.cons_append, cutB_stroke, ih]
        split <;> simp
    · obtain ⟨p, ps, e⟩ := cutB_head l
      rw [cutB_other hd e] at h
      cases o with
      | nil =>
        simp at h
        obtain ⟨rfl, rfl⟩ := h
        have ih := cutB_snoc l c [] p e
        by_cases hc : c = 47
        · simp only [hc, if_pos, List.nil_append, List.cons_append] at ih ⊢
          exact cutB_other hd ih
        · simp only [hc, if_false, List.nil_append, List.cons_append] at ih ⊢
          exact cutB_other hd ih
      | cons a o =>
        simp at h
        obtain ⟨rfl, h⟩ := h
        have ih := cutB_snoc l c (p :: o) x (by simp [e, h])
        by_cases hc : c = 47
        · simp only [hc, if_pos, List.cons_append] at ih ⊢
          exact cutB_other hd ih
        · simp only [hc, if_false, List.cons_append] at ih ⊢
          exact cutB_other hd ih

theorem cutB_no : ∀ (l : Bs), ∀ n ∈ cutB l, (47 : UInt8) ∉ n
  | [], n, h => by simp [cutB] at h; simp [h]
  | c :: l, n, h => by
    by_cases hc : c = 47
    · subst hc
      rw [cutB_stroke] at h
      rcases List.mem_cons.1 h with rfl | h
      · simp
      · exact cutB_no l n h
    · obtain ⟨p, ps, e⟩ := cutB_head l
      rw [cutB_other hc e] at h
      rcases List.mem_cons.1 h with rfl | h
      · have := cutB_no l p (by simp [e])
        simp [this, Ne.symm hc]
      · exact cutB_no l n (by simp [e, h])

theorem join_append (a b : List Bs) : joinB (a ++ b) = joinB a ++ joinB b := by
  induction a with
  | nil => rfl
  | cons n a ih => simp [joinB, ih]
theorem join_cut : ∀ (l : Bs), joinB (cutB l) = 47 :: l
  | [] => rfl
  | c :: l => by
    by_cases hc : c = 47
    · subst hc
      rw [cutB_stroke, joinB, join_cut l]; rfl
    · obtain ⟨p, ps, e⟩ := cutB_head l
      have ih := join_cut l
      rw [e, joinB] at ih
      rw [cutB_other hc e, joinB]
      simp at ih ⊢
      exact ih
theorem cut_join : ∀ {ns : List Bs}, ns ≠ [] → (∀ n ∈ ns, (47 : UInt8) ∉ n) → cutB (joinB ns).tail = ns
  | [], h, _ => absurd rfl h
  | [n], _, h => by simpa [joinB] using cutB_miss (h n (by simp))
  | n :: m :: ns, _, h => by
    have ih := cut_join (ns := m :: ns) (by simp) (fun x hx => h x (by simp [List.mem_cons.1 hx]))
    have e : joinB (n :: m :: ns) = 47 :: (n ++ 47 :: (joinB (m :: ns)).tail) := by simp [joinB]
    rw [e, List.tail_cons, cutB_hit _ (h n (by simp)), ih]
theorem joinB_cons {ns : List Bs} (h : ns ≠ []) : joinB ns = 47 :: (joinB ns).tail := by
  cases ns with
  | nil => exact absurd rfl h
  | cons n ns => rfl

theorem cutB_length (l : Bs) : (cutB l).length ≤ l.length + 1 := by
  induction l with
  | nil => simp [cutB]
  | cons c l ih =>
    by_cases hc : c = 47
    · subst hc; rw [cutB_stroke]; simp; omega
    · obtain ⟨p, ps, e⟩ := cutB_head l
      rw [cutB_other hc e]
      rw [e] at ih
      simp at ih ⊢; omega
theorem cutB_each : ∀ (l : Bs), ∀ n ∈ cutB l, n.length ≤ l.length
  | [], n, h => by simp [cutB] at h; simp [h]
  | c :: l, n, h => by
    by_cases hc : c = 47
    · subst hc
      rw [cutB_stroke] at h
      rcases List.mem_cons.1 h with rfl | h
      · simp
      · have := cutB_each l n h; simp; omega
    · obtain ⟨p, ps, e⟩ := cutB_head l
      rw [cutB_other hc e] at h
      rcases List.mem_cons.1 h with rfl | h
      · have := cutB_each l p (by simp [e]); simp; omega
      · have := cutB_each l n (by simp [e, h]); simp; omega

/-- A byte a to z. -/
def small (c : UInt8) : Bool := decide (97 ≤ (c.toNat : Int) ∧ (c.toNat : Int) ≤ 122)
/-- A name of bytes a to z. -/
def plain (n : Bs) : Bool := n.all small && !n.isEmpty
/-- The fault of names. -/
def faultN (ns : List Bs) : Int := if ns.all plain then (if ns.all (fun n => decide (n.length ≤ 4)) && decide (ns.length ≤ 3) then 0 else 2) else 5
def faultP (p : Bs) : Int :=
  match p with
  | [] => 5
  | c :: r => if c = 47 then faultN (cutB r) else 5

/-- Names of a path. -/
def Names (ns : List Bs) : Prop := ns ≠ [] ∧ (∀ n ∈ ns, plain n = true) ∧ (∀ n ∈ ns, n.length ≤ 4) ∧ ns.length ≤ 3

theorem plain_no {n : Bs} (h : plain n = true) : (47 : UInt8) ∉ n := by
  intro hm
  simp only [plain, Bool.and_eq_true, List.all_eq_true] at h
  have := h.1 47 hm
  exact absurd this (by decide)
theorem plain_ne {n : Bs} (h : plain n = true) : n ≠ [] := by
  intro e
  subst e
  simp [plain] at h
theorem plain_dots {n : Bs} (h : plain n = true) : n ≠ [46] ∧ n ≠ [46, 46] := by
  constructor
  · rintro rfl; exact absurd h (by decide)
  · rintro rfl; exact absurd h (by decide)

theorem faultN_zero {ns : List Bs} (hne : ns ≠ []) (h : faultN ns = 0) : Names ns := by
  unfold faultN at h
  split at h
  · rename_i hp
    split at h
    · rename_i hq
      simp at hp hq
      exact ⟨hne, hp, hq.1, hq.2⟩
    · omega
  · omega
theorem faultN_of {ns : List Bs} (h : Names ns) : faultN ns = 0 := by
  obtain ⟨h0, h1, h2, h3⟩ := h
  unfold faultN
  rw [if_pos (by simpa using h1), if_pos (by simpa using ⟨h2, h3⟩)]
theorem faultN_cases (ns : List Bs) : faultN ns = 0 ∨ faultN ns = 2 ∨ faultN ns = 5 := by
  unfold faultN
  split
  · split <;> simp
  · simp
theorem faultP_cases (p : Bs) : faultP p = 0 ∨ faultP p = 2 ∨ faultP p = 5 := by
  unfold faultP
  split
  · simp
  · split
    · exact faultN_cases _
    · simp
theorem names_no {ns : List Bs} (h : Names ns) : ∀ n ∈ ns, (47 : UInt8) ∉ n := fun n hn => plain_no (h.2.1 n hn)
/-- A path without fault is made of its names. -/
theorem faultP_zero {p : Bs} (h : faultP p = 0) : ∃ ns, Names ns ∧ p = joinB ns ∧ cutB p.tail = ns ∧ p = 47 :: p.tail := by
  cases p with
  | nil => simp [faultP] at h
  | cons c r =>
    by_cases hc : c = 47
    · subst hc
      simp only [faultP, if_pos] at h
      have hn := faultN_zero (cutB_ne r) h
      exact ⟨cutB r, hn, by rw [join_cut], rfl, rfl⟩
    · simp [faultP, hc] at h
theorem faultP_of {ns : List Bs} (h : Names ns) : faultP (joinB ns) = 0 := by
  rw [joinB_cons h.1]
  simp only [faultP, if_pos]
  rw [cut_join h.1 (names_no h)]
  exact faultN_of h
theorem cut_of {ns : List Bs} (h : Names ns) : cutB (joinB ns).tail = ns := cut_join h.1 (names_no h)

/-- What a piece makes of those that are left. -/
def leftStep (o : Option (List Bs)) (p : Bs) : Option (List Bs) :=
  match o with
  | none => none
  | some l => if p = [] ∨ p = [46] then some l else if p = [46, 46] then (if l = [] then none else some l.dropLast) else some (l ++ [p])
def leftOf (ps : List Bs) : Option (List Bs) := ps.foldl leftStep (some [])
theorem leftOf_snoc (ps : List Bs) (p : Bs) : leftOf (ps ++ [p]) = leftStep (leftOf ps) p := by simp [leftOf]
theorem left_none (ps : List Bs) : ps.foldl leftStep none = none := by
  induction ps with
  | nil => rfl
  | cons a l ih => exact ih
theorem left_stop {ps qs : List Bs} (h : leftOf ps = none) : leftOf (ps ++ qs) = none := by
  unfold leftOf at h ⊢
  rw [List.foldl_append, h, left_none]
theorem left_len : ∀ (ps : List Bs) (o : Option (List Bs)) (l : List Bs), ps.foldl leftStep o = some l → ∃ k, o = some k ∧ l.length ≤ k.length + ps.length
  | [], o, l, h => ⟨l, h, by simp⟩
  | p :: ps, o, l, h => by
    obtain ⟨k, hk, hl⟩ := left_len ps _ l h
    cases o with
    | none => simp [leftStep] at hk
    | some m =>
      refine ⟨m, rfl, ?_⟩
      simp only [leftStep] at hk
      split at hk
      · obtain rfl := Option.some.inj hk; simp; omega
      · split at hk
        · split at hk
          · cases hk
          · obtain rfl := Option.some.inj hk; simp at hl ⊢; omega
        · obtain rfl := Option.some.inj hk; simp at hl ⊢; omega
theorem leftOf_len {ps l : List Bs} (h : leftOf ps = some l) : l.length ≤ ps.length := by
  obtain ⟨k, hk, hl⟩ := left_len ps _ l h
  obtain rfl := Option.some.inj hk
  simpa using hl
theorem left_mem : ∀ (ps : List Bs) (o : Option (List Bs)) (l : List Bs), ps.foldl leftStep o = some l → ∃ k, o = some k ∧ ∀ x ∈ l, x ∈ k ∨ x ∈ ps
  | [], o, l, h => ⟨l, h, fun x hx => .inl hx⟩
  | p :: ps, o, l, h => by
    obtain ⟨k, hk, hl⟩ := left_mem ps _ l h
    cases o with
    | none => simp [leftStep] at hk
    | some m =>
      refine ⟨m, rfl, fun x hx => ?_⟩
      rcases hl x hx with h1 | h1
      · simp only [leftStep] at hk
        split at hk
        · obtain rfl := Option.some.inj hk; exact .inl h1
        · split at hk
          · split at hk
            · cases hk
            · obtain rfl := Option.some.inj hk; exact .inl (List.dropLast_subset _ h1)
          · obtain rfl := Option.some.inj hk
            rcases List.mem_append.1 h1 with h2 | h2
            · exact .inl h2
            · simp at h2; exact .inr (by simp [h2])
      · exact .inr (by simp [h1])
theorem leftOf_mem {ps l : List Bs} (h : leftOf ps = some l) : ∀ x ∈ l, x ∈ ps := by
  obtain ⟨k, hk, hl⟩ := left_mem ps _ l h
  obtain rfl := Option.some.inj hk
  intro x hx
  simpa using hl x hx

/-- What NormPath answers. -/
def normC (t : Bs) : Int :=
  if 40 < t.length then 2 else
    match leftOf (cutB t) with
    | none => 5
    | some l => if l = [] then 4 else faultP (joinB l)
def normT (t : Bs) : Bs :=
  if normC t = 0 then
    match leftOf (cutB t) with
    | none => []
    | some l => joinB l
  else []

theorem normC_many {t : Bs} (h : 40 < t.length) : normC t = 2 ∧ normT t = [] := by
  have e : normC t = 2 := by simp [normC, h]
  exact ⟨e, by simp [normT, e]⟩
theorem normC_none {t : Bs} (h : ¬ 40 < t.length) (hl : leftOf (cutB t) = none) : normC t = 5 ∧ normT t = [] := by
  have e : normC t = 5 := by simp [normC, h, hl]
  exact ⟨e, by simp [normT, e]⟩
theorem normC_empty {t : Bs} (h : ¬ 40 < t.length) (hl : leftOf (cutB t) = some []) : normC t = 4 ∧ normT t = [] := by
  have e : normC t = 4 := by simp [normC, h, hl]
  exact ⟨e, by simp [normT, e]⟩
theorem normC_bad {t : Bs} {l : List Bs} (h : ¬ 40 < t.length) (hl : leftOf (cutB t) = some l) (hne : l ≠ []) (hf : faultP (joinB l) ≠ 0) : normC t = faultP (joinB l) ∧ normT t = [] := by
  have e : normC t = faultP (joinB l) := by simp [normC, h, hl, hne]
  exact ⟨e, by simp [normT, e, hf]⟩
theorem normC_good {t : Bs} {l : List Bs} (h : ¬ 40 < t.length) (hl : leftOf (cutB t) = some l) (hne : l ≠ []) (hf : faultP (joinB l) = 0) : normC t = 0 ∧ normT t = joinB l := by
  have e : normC t = 0 := by simp [normC, h, hl, hne, hf]
  exact ⟨e, by simp [normT, e, hl]⟩

theorem norm_zero {t : Bs} (h : normC t = 0) : faultP (normT t) = 0 := by
  by_cases h1 : 40 < t.length
  · rw [(normC_many h1).1] at h; omega
  · cases hl : leftOf (cutB t) with
    | none => rw [(normC_none h1 hl).1] at h; omega
    | some l =>
      by_cases h2 : l = []
      · subst h2; rw [(normC_empty h1 hl).1] at h; omega
      · by_cases h3 : faultP (joinB l) = 0
        · rw [(normC_good h1 hl h2 h3).2]; exact h3
        · rw [(normC_bad h1 hl h2 h3).1] at h; exact absurd h h3

theorem left_plain : ∀ (ns l : List Bs), (∀ n ∈ ns, plain n = true) → ns.foldl leftStep (some l) = some (l ++ ns)
  | [], l, _ => by simp
  | n :: ns, l, h => by
    have hn := h n (by simp)
    have e : leftStep (some l) n = some (l ++ [n]) := by
      simp [leftStep, plain_ne hn, (plain_dots hn).1, (plain_dots hn).2]
    rw [List.foldl_cons, e, left_plain ns _ (fun m hm => h m (by simp [hm]))]
    simp
theorem join_len : ∀ (ns : List Bs), (∀ n ∈ ns, n.length ≤ 4) → (joinB ns).length ≤ 5 * ns.length
  | [], _ => by simp [joinB]
  | n :: ns, h => by
    have := join_len ns (fun m hm => h m (by simp [hm]))
    have := h n (by simp)
    simp [joinB]; omega
/-- A path is made one again: it is the same. -/
theorem norm_same {p : Bs} (h : faultP p = 0) : normC p = 0 ∧ normT p = p := by
  obtain ⟨ns, hN, hp, hc, hs⟩ := faultP_zero h
  have hlen : ¬ 40 < p.length := by
    have := join_len ns hN.2.2.1
    have := hN.2.2.2
    rw [hp]; omega
  have hl : leftOf (cutB p) = some ns := by
    rw [hs, cutB_stroke, hc]
    show ns.foldl leftStep (leftStep (some []) []) = _
    have : leftStep (some []) [] = some [] := by simp [leftStep]
    rw [this, left_plain ns [] hN.2.1]
    rfl
  have hf : faultP (joinB ns) = 0 := by rw [← hp]; exact h
  have := normC_good hlen hl hN.1 hf
  rw [← hp] at this
  exact this

/-- What is above names: the uppermost first. -/
def aboveN (ns : List Bs) : List Bs := (List.range (ns.length - 1)).map fun k => joinB (ns.take (k + 1))
/-- What AboveOf answers. -/
def above (p : Bs) : List Bs := if faultP p = 0 then aboveN (cutB p.tail) else []

theorem aboveN_length (ns : List Bs) : (aboveN ns).length = ns.length - 1 := by simp [aboveN]
theorem names_take {ns : List Bs} (h : Names ns) {k : Nat} (hk : 0 < k) : Names (ns.take k) := by
  obtain ⟨h0, h1, h2, h3⟩ := h
  refine ⟨?_, fun n hn => h1 n (List.mem_of_mem_take hn), fun n hn => h2 n (List.mem_of_mem_take hn), by simp; omega⟩
  cases ns with
  | nil => exact absurd rfl h0
  | cons a l => cases k with
    | zero => omega
    | succ k => simp
theorem mem_aboveN {ns : List Bs} {t : Bs} : t ∈ aboveN ns ↔ ∃ k, 0 < k ∧ k < ns.length ∧ t = joinB (ns.take k) := by
  unfold aboveN
  simp only [List.mem_map, List.mem_range]
  constructor
  · rintro ⟨k, hk, rfl⟩; exact ⟨k + 1, by omega, by omega, rfl⟩
  · rintro ⟨k, h0, hk, rfl⟩
    refine ⟨k - 1, by omega, ?_⟩
    have : k - 1 + 1 = k := by omega
    rw [this]

/-- The model's word: path begins with top, a stroke behind it, and more. -/
def belowB (p t : Bs) : Bool := decide (t.length + 1 < p.length) && (p.take t.length == t) && (p.drop t.length).head? == some 47

/-- Is t above p? Both words are one. -/
theorem above_iff {p t : Bs} (hp : faultP p = 0) : t ∈ aboveN (cutB p.tail) ↔ faultP t = 0 ∧ belowB p t = true := by
  obtain ⟨ns, hN, hpe, hc, hs⟩ := faultP_zero hp
  rw [hc, mem_aboveN]
  constructor
  · rintro ⟨k, h0, hk, rfl⟩
    refine ⟨faultP_of (names_take hN h0), ?_⟩
    have hd : ns.drop k ≠ [] := by intro e; have := congrArg List.length e; simp at this; omega
    obtain ⟨m, ms, hm⟩ : ∃ m ms, ns.drop k = m :: ms := by
      cases e : ns.drop k with
      | nil => exact absurd e hd
      | cons m ms => exact ⟨m, ms, rfl⟩
    have hm1 : m ∈ ns := List.mem_of_mem_drop (by rw [hm]; simp)
    have hm2 := plain_ne (hN.2.1 m hm1)
    have e : p = joinB (ns.take k) ++ 47 :: (m ++ joinB ms) := by
      rw [hpe]
      conv => lhs; rw [← List.take_append_drop k ns, join_append, hm, joinB]
    have hl : 0 < m.length := List.length_pos_iff.2 hm2
    rw [e]
    simp [belowB]
    omega
  · rintro ⟨ht, hb⟩
    obtain ⟨ms, hM, hte, hcm, hsm⟩ := faultP_zero ht
    simp only [belowB, Bool.and_eq_true, decide_eq_true_eq, beq_iff_eq] at hb
    obtain ⟨⟨hlen, htake⟩, hhead⟩ := hb
    obtain ⟨r, hr⟩ : ∃ r, p.drop t.length = 47 :: r := by
      cases e : p.drop t.length with
      | nil => rw [e] at hhead; simp at hhead
      | cons c r => rw [e] at hhead; simp at hhead; exact ⟨r, by rw [hhead]⟩
    have e : p = joinB (ms ++ cutB r) := by
      rw [join_append, join_cut, ← hte, ← hr]
      conv => lhs; rw [← List.take_append_drop t.length p, htake]
    have hns : ns = ms ++ cutB r := by
      rw [← hc, e]
      refine cut_join (by simp [hM.1]) (fun n hn => ?_)
      rcases List.mem_append.1 hn with h | h
      · exact names_no hM n h
      · exact cutB_no r n h
    refine ⟨ms.length, List.length_pos_iff.2 hM.1, ?_, ?_⟩
    · rw [hns]; have := List.length_pos_iff.2 (cutB_ne r); simp; omega
    · rw [hns]; simp [hte]

theorem aboveN_good {ns : List Bs} (h : Names ns) {t : Bs} (ht : t ∈ aboveN ns) : faultP t = 0 := by
  obtain ⟨k, h0, _, rfl⟩ := mem_aboveN.1 ht
  exact faultP_of (names_take h h0)
/-- A path that is shorter is not below. -/
theorem below_not {p t : Bs} (hp : faultP p = 0) (ht : t ∈ above p) : belowB t p = false := by
  have h1 := ht
  rw [above, if_pos hp] at h1
  have h2 := ((above_iff hp).1 h1).2
  simp only [belowB, Bool.and_eq_true, decide_eq_true_eq, beq_iff_eq] at h2
  have h3 : ¬ p.length + 1 < t.length := by omega
  simp [belowB, h3]

/-- The last name. -/
def lastN (ns : List Bs) : Bs := ns.getLastD []
theorem last_split {ns : List Bs} (h : ns ≠ []) : ns = ns.dropLast ++ [lastN ns] := by
  rw [lastN, List.getLastD_eq_getLast?]
  rw [List.getLast?_eq_some_getLast h]
  exact (List.dropLast_concat_getLast h).symm
/-- The path above, a stroke, the last name. -/
theorem parent_join {ns : List Bs} (h : 1 < ns.length) : (aboveN ns).getLastD [] ++ 47 :: lastN ns = joinB ns := by
  have hne : ns ≠ [] := by intro e; simp [e] at h
  have e1 : (aboveN ns).getLastD [] = joinB ns.dropLast := by
    unfold aboveN
    obtain ⟨k, hk⟩ : ∃ k, ns.length - 1 = k + 1 := ⟨ns.length - 2, by omega⟩
    rw [hk, List.range_succ, List.map_append]
    simp [List.dropLast_eq_take, hk]
  rw [e1]
  conv => rhs; rw [last_split hne, join_append]
  simp [joinB]

end Go.Proofs.YtjkmbicedbdifaaGreat

namespace Go.Proofs.YtjkmbicedbdifaaGreat
open Go.RowKit
set_option linter.unusedVariables false

theorem ret_str {a b : ByteArray} (h : a = b) : Ending.returned (.string a) = .returned (.string b) := by rw [h]

def vS (p : Bs) : Value := .string (str p)
/-- The list that v owns is of the texts ps. -/
def OwnS (B : Nat) (w : World) (v : Value) (ps : List Bs) : Prop := w.ownsRow B 9 1 v ps.length (ps.map vS)
/-- The slice at address a reads as the texts ps (an empty one: nothing is known of a). -/
def ReadsS (w : World) (a : Option Addr) (ps : List Bs) : Prop :=
  ps ≠ [] → ∃ b off, a = some ⟨b, off, none⟩ ∧ b < w.heap.size ∧ ∀ i, i < ps.length → w.cell? ⟨b, off + i, none⟩ = some (.string (str (ps.getD i [])))

theorem ReadsS.kept {S : Nat → Prop} {w w' : World} {a : Option Addr} {ps : List Bs} (h : ReadsS w a ps) (hk : Kept S w w') (hn : ps ≠ [] → ∀ x, a = some x → ¬ S x.block) : ReadsS w' a ps := by
  intro hz
  obtain ⟨b, off, rfl, hb, hc⟩ := h hz
  exact ⟨b, off, rfl, Nat.lt_of_lt_of_le hb hk.size, fun i hi => (hk.cell (p := ⟨b, off + i, none⟩) hb (hn hz ⟨b, off, none⟩ rfl)).trans (hc i hi)⟩
theorem ReadsS.below {w w' : World} {a : Option Addr} {ps : List Bs} (h : ReadsS w a ps) (hk : Below w.heap.size w w') : ReadsS w' a ps :=
  h.kept (S := fun _ => False) (Kept.of_below hk) (fun _ _ _ => id)
theorem ReadsS.drewN {w : World} {a : Option Addr} {ps : List Bs} (h : ReadsS w a ps) (n : Nat) : ReadsS (w.drewN n) a ps := h
theorem ReadsS.nil (w : World) (a : Option Addr) : ReadsS w a [] := fun h => absurd rfl h
theorem ReadsS.take {w : World} {a : Option Addr} {ps : List Bs} (h : ReadsS w a ps) (k : Nat) : ReadsS w a (ps.take k) := by
  intro hz
  have hp : ps ≠ [] := by rintro rfl; simp at hz
  obtain ⟨b, off, rfl, hb, hc⟩ := h hp
  refine ⟨b, off, rfl, hb, fun i hi => ?_⟩
  have hi' : i < k ∧ i < ps.length := by simpa [Nat.lt_min] using hi
  rw [hc i hi'.2]
  simp [List.getD_eq_getElem?_getD, hi'.1]

theorem ReadsS.at {w : World} {a : Option Addr} {ps : List Bs} (h : ReadsS w a ps) {k : Nat} (hk : k < ps.length) :
    ∃ b off p, a = some ⟨b, off, none⟩ ∧ b < w.heap.size ∧ ps[k]? = some p ∧ w.cell? ⟨b, off + k, none⟩ = some (.string (str p)) := by
  obtain ⟨b, off, e, hb, hc⟩ := h (by intro e; simp [e] at hk)
  refine ⟨b, off, ps[k], e, hb, by simp [hk], ?_⟩
  rw [hc k hk]
  simp [List.getD_eq_getElem?_getD, hk]

namespace OwnS
variable {B : Nat} {w w' : World} {v : Value} {ps : List Bs}
theorem nil (B : Nat) (w : World) : OwnS B w (.slice none 0 0) [] := World.ownsRow_nil _ _ _ _
theorem shape (h : OwnS B w v ps) : ∃ a c, v = .slice a ps.length c := ownsRow_shape h
theorem below (h : OwnS B w v ps) (hk : Below w.heap.size w w') : OwnS B w' v ps := ownsRow_below h hk
theorem kept {S : Nat → Prop} (h : OwnS B w v ps) (hk : Kept S w w') (hn : ∀ b, v.ownBlock = some b → ¬ S b) : OwnS B w' v ps := ownsRow_kept h hk hn
theorem mono {B' : Nat} (h : OwnS B w v ps) (hb : B' ≤ B) : OwnS B' w v ps := ownsRow_mono h hb
theorem cap {a : Option Addr} {n c : Nat} (h : OwnS B w (.slice a n c) ps) (hn : n = ps.length) : n ≤ c := by
  subst hn; exact ownsRow_cap h
theorem reads {a : Option Addr} {n c : Nat} (h : OwnS B w (.slice a n c) ps) : ReadsS w a ps := by
  intro hz
  have h0 : 0 < ps.length := List.length_pos_iff.2 hz
  rcases h.2 with ⟨h', hh⟩ | ⟨g, cap, cur, h', hb, hh, hnc, hcm, hcs, htake⟩
  · omega
  · have hl : n = ps.length ∧ a = some ⟨g, 0, none⟩ := by simp only [Value.slice.injEq] at h'; exact ⟨h'.2.1, h'.1⟩
    obtain ⟨rfl, rfl⟩ := hl
    refine ⟨g, 0, rfl, (h.lt g rfl).2, fun i hi => ?_⟩
    have := World.ownsRow.cellAt h i (by omega)
    rw [Nat.zero_add, this]
    simp [List.getD_eq_getElem?_getD, hi, vS]
/-- The same list without its last. -/
theorem dropLast {a : Option Addr} {n c : Nat} (h : OwnS B w (.slice a n c) ps) (hz : ps ≠ []) : OwnS B w (.slice a (n - 1) c) ps.dropLast := by
  have h0 : 0 < ps.length := List.length_pos_iff.2 hz
  rcases h.2 with ⟨h', hh⟩ | ⟨g, cap, cur, h', hb, hh, hnc, hcm, hcs, htake⟩
  · omega
  · simp only [Value.slice.injEq] at h'
    obtain ⟨rfl, rfl, rfl⟩ := h'
    refine ⟨by simp, .inr ⟨g, c, cur, by simp, hb, hh, by simp; omega, hcm, hcs, ?_⟩⟩
    simp only [Nat.mul_one] at htake
    rw [List.map_dropLast, ← htake]
    simp only [Nat.mul_one, List.dropLast_eq_take, List.take_take, List.length_take, Array.length_toList]
    congr 1
    omega
end OwnS

theorem OwnS.snoc {B : Nat} {w : World} {v : Value} {ps : List Bs} {p : Bs} {s : ByteArray} (h : w.ownsRow B 9 1 v (ps.length + 1) (ps.map vS ++ #[Value.string s].toList)) (hs : s = str p) : OwnS B w v (ps ++ [p]) := by
  unfold OwnS
  subst hs
  simpa [vS] using h

end Go.Proofs.YtjkmbicedbdifaaGreat

namespace Go.Proofs.YtjkmbicedbdifaaGreat
open Go.RowKit
set_option linter.unusedVariables false

theorem small_take_snoc (s : ByteArray) (k : Nat) (h : k < s.size) : s.data.toList.take (k + 1) = s.data.toList.take k ++ [s[k]] := by
  rw [List.take_succ_eq_append_getElem (by simpa using h)]; rfl
theorem all_take_snoc {s : ByteArray} {k : Nat} (h : k < s.size) (ha : (s.data.toList.take k).all small = true) (hc : small s[k] = true) : (s.data.toList.take (k + 1)).all small = true := by
  rw [small_take_snoc s k h]; simp [ha, hc]
theorem all_stop {s : ByteArray} {k : Nat} (h : k < s.size) (hc : small s[k] = false) : plain s.data.toList = false := by
  have : s[k] ∈ s.data.toList := Array.mem_toList_iff.2 (Array.getElem_mem (xs := s.data) (i := k) h)
  have h2 : s.data.toList.all small = false := by
    rw [List.all_eq_false]; exact ⟨_, this, by simp [hc]⟩
  simp [plain, h2]
theorem small_yes {c : UInt8} (h1 : 97 ≤ (c.toNat : Int)) (h2 : (c.toNat : Int) ≤ 122) : small c = true := decide_eq_true ⟨h1, h2⟩
theorem small_no {c : UInt8} (h : (c.toNat : Int) < 97 ∨ 122 < (c.toNat : Int)) : small c = false := decide_eq_false (by omega)
theorem plain_end {s : ByteArray} {k : Nat} (hk : s.size ≤ k) (ha : (s.data.toList.take k).all small = true) (b : Bool) (hb : b = !s.data.toList.isEmpty) : plain s.data.toList = b := by
  rw [List.take_of_length_le (by simpa using hk)] at ha
  simp [plain, ha, hb]
theorem str_ne_empty (s : ByteArray) : (!s.toList.isEmpty) = !s.data.toList.isEmpty := by rw [ByteArray.toList_eq]

set_option maxHeartbeats 400000 in
theorem l3Plain_any (s : ByteArray) (w : World) (hs : s.size ≤ 9223372036854775807) :
    Calls Tryz.prog 126 #[.string s] w fun e w' => e = .returned (.bool (plain s.data.toList)) ∧ w' = w := by
  go_enter Tryz.func126, Tryz.ntmps126
  go_wp2
  go_loop [3] (fun i => ∃ k : Nat, k ≤ s.size ∧ i = .int .i64 k ∧ (s.data.toList.take k).all small = true) (fun i => s.size - (intOf i).toNat)
  case atStart => exact ⟨0, Nat.zero_le _, rfl, rfl⟩
  case round =>
    obtain ⟨k, hk, rfl, ha⟩ := hrel
    have HA := hide ha
    clear ha
    by_cases hlt : k < s.size
    · by_cases c1 : (s[k].toNat : Int) < 97
      · have HN := hide (all_stop hlt (small_no (.inl c1)))
        go_wp2
        go_ret
        exact ⟨ret_bool HN.out.symm, rfl⟩
      · by_cases c2 : 122 < (s[k].toNat : Int)
        · have HN := hide (all_stop hlt (small_no (.inr c2)))
          go_wp2
          go_ret
          exact ⟨ret_bool HN.out.symm, rfl⟩
        · have HN := hide (all_take_snoc hlt HA.out (small_yes (by omega) (by omega)))
          go_wp2
          go_round
          case rel => exact ⟨k + 1, by omega, by go_num, HN.out⟩
          case measure => simp [intOf]; omega
    · have HN := hide (fun b hb => plain_end (s := s) (k := k) (by omega) HA.out b hb)
      go_wp2
      go_ret
      exact ⟨ret_bool (HN.out _ (str_ne_empty s)).symm, rfl⟩

set_option maxHeartbeats 400000 in
theorem isLetters_any (s : ByteArray) (w : World) (hs : s.size ≤ 9223372036854775807) :
    Calls Tryz.prog 116 #[.string s] w fun e w' => e = .returned (.bool (plain s.data.toList)) ∧ w' = w := by
  go_enter Tryz.func116, Tryz.ntmps116
  go_wp2
  go_loop [3, 6] (fun _ i => ∃ k : Nat, k ≤ s.size ∧ i = .int .i64 k ∧ (s.data.toList.take k).all small = true) (fun _ i => s.size - (intOf i).toNat)
  case atStart => exact ⟨0, Nat.zero_le _, rfl, rfl⟩
  case round =>
    obtain ⟨k, hk, rfl, ha⟩ := hrel
    have HA := hide ha
    clear ha
    by_cases hlt : k < s.size
    · by_cases c1 : (s[k].toNat : Int) < 97
      · have HN := hide (all_stop hlt (small_no (.inl c1)))
        go_wp2
        go_ret
        exact ⟨ret_bool HN.out.symm, rfl⟩
      · by_cases c2 : 122 < (s[k].toNat : Int)
        · have HN := hide (all_stop hlt (small_no (.inr c2)))
          go_wp2
          go_ret
          exact ⟨ret_bool HN.out.symm, rfl⟩
        · have HN := hide (all_take_snoc hlt HA.out (small_yes (by omega) (by omega)))
          go_wp2
          go_round
          case rel => exact ⟨k + 1, by omega, by go_num, HN.out⟩
          case measure => simp [intOf]; omega
    · have HN := hide (fun b hb => plain_end (s := s) (k := k) (by omega) HA.out b hb)
      go_wp2
      go_ret
      exact ⟨ret_bool (HN.out _ (str_ne_empty s)).symm, rfl⟩

theorem infoS : (Tryz.prog.info? 9).map (fun i => (i.zero, i.size, i.bytes)) = some (some (.string ⟨#[]⟩), 1, 16) := by kernel_rfl

/-- What the model has cut up to byte k, the piece at hand beginning at j. -/
def cutAt (l : Bs) (q : List Bs) (j k : Nat) : Prop := (k ≤ l.length → cutB (l.take k) = q ++ [(l.drop j).take (k - j)]) ∧ (l.length < k → q = cutB l)
theorem cutAt_zero (l : Bs) : cutAt l [] 0 0 := ⟨fun _ => by simp [cutB], fun h => by omega⟩
theorem take_piece (s : ByteArray) {j k : Nat} (hj : j ≤ k) (hk : k < s.size) : (s.data.toList.drop j).take (k + 1 - j) = (s.data.toList.drop j).take (k - j) ++ [s[k]] := by
  have e : k + 1 - j = (k - j) + 1 := by omega
  have hl : k - j < (s.data.toList.drop j).length := by simp; omega
  rw [e, List.take_succ_eq_append_getElem hl]
  congr 2
  rw [List.getElem_drop]
  have : j + (k - j) = k := by omega
  simp [this]
  rfl
theorem cutAt_end {l : Bs} {q : List Bs} {j : Nat} (h : cutAt l q j l.length) : cutAt l (q ++ [(l.drop j).take (l.length - j)]) (l.length + 1) (l.length + 1) := by
  refine ⟨fun h => by omega, fun _ => ?_⟩
  rw [← h.1 (Nat.le_refl _), List.take_length]
theorem cutAt_hit {s : ByteArray} {q : List Bs} {j k : Nat} (h : cutAt s.data.toList q j k) (hk : k < s.size) (hj : j ≤ k) (hc : s[k] = 47) : cutAt s.data.toList (q ++ [(s.data.toList.drop j).take (k - j)]) (k + 1) (k + 1) := by
  have hl : s.data.toList.length = s.size := (Lib.size_eq s).symm
  refine ⟨fun _ => ?_, fun h' => by omega⟩
  rw [small_take_snoc s k hk, cutB_snoc _ _ _ _ (h.1 (by omega)), if_pos hc]
  simp
theorem cutAt_miss {s : ByteArray} {q : List Bs} {j k : Nat} (h : cutAt s.data.toList q j k) (hk : k < s.size) (hj : j ≤ k) (hc : s[k] ≠ 47) : cutAt s.data.toList q j (k + 1) := by
  have hl : s.data.toList.length = s.size := (Lib.size_eq s).symm
  refine ⟨fun _ => ?_, fun h' => by omega⟩
  rw [small_take_snoc s k hk, cutB_snoc _ _ _ _ (h.1 (by omega)), if_neg hc, take_piece s hj hk]

set_option maxRecDepth 100000 in
set_option maxHeartbeats 1600000 in
theorem l3Cut_any (s : ByteArray) (w : World) (hs : s.size ≤ 2097152) :
    Calls Tryz.prog 125 #[.string s, .int .u8 47] w fun e w' => ∃ v, e = .returned v ∧ OwnS w.heap.size w' v (cutB s.data.toList) ∧ Below w.heap.size w w' := by
  obtain ⟨i1, ki, kz0, kz1, kz2⟩ := info_parts infoS
  have hl : s.data.toList.length = s.size := (Lib.size_eq s).symm
  have HL := hide hl
  clear hl
  have O1 := hide (World.ownsRow_made (base := w.heap.size) (e := 9) (size := 1) w #[] 0 (Nat.le_refl _) (Nat.zero_le _) rfl)
  go_enter Tryz.func125, Tryz.ntmps125
  go_wp2_with fail
  go_loopw [5, 6, 7] (fun v f i wr => ∃ (k j : Nat) (q : List Bs), k ≤ s.size + 1 ∧ j ≤ k ∧ q.length ≤ k ∧ i = .int .i64 k ∧ f = .int .i64 j ∧ Hid (OwnS w.heap.size wr v q) ∧ Hid (cutAt s.data.toList q j k) ∧ Hid (Below w.heap.size w wr)) (fun _ _ i _ => s.size + 1 - (intOf i).toNat)
  case atStart => exact ⟨0, 0, [], by omega, by omega, by simp, rfl, rfl, hide O1.out, hide (cutAt_zero _), hide (below_alloc _ _)⟩
  case round =>
    obtain ⟨k, j, q, hk, hj, hq, rfl, rfl, HO, HC, HB⟩ := hrel
    obtain ⟨va, vc, rfl⟩ := HO.out.shape
    have hm1 : q.length + 1 ≤ maxLen := by unfold maxLen; omega
    have hm2 : (q.length + 1) * 16 ≤ 140737488355328 := by omega
    have hsz := HB.out.size
    have HX := hide (show s.extract j k = str ((s.data.toList.drop j).take (k - j)) from Lib.extract_eq s j k)
    by_cases hlt : k < s.size
    · by_cases hc : (s[k].toNat : Int) = 47
      · have hne : ((k : Int) == (s.size : Int)) = false := by simp; omega
        have HN := hide (cutAt_hit HC.out hlt hj (by apply UInt8.toNat_inj.1; show _ = 47; omega))
        go_wp2_with (at_builtin; refine wpList_append_one rfl (.tmp 26) (.tmp 31) 26 rfl w.heap.size 9 i1 (.string ⟨#[]⟩) 1 16 Tryz.underlying26 ki kz0 kz1 kz2 rfl (by decide) _ _ _ rfl HO.out rfl rfl (by intro u hu; simp at hu; subst hu; rfl) hm1 hm2 hsz ?_; intro v' w2 hown2 hkept; have O2 := hide hown2; have K2 := hide hkept; clear hown2 hkept)
        go_roundw
        case rel => exact ⟨k + 1, k + 1, q ++ [(s.data.toList.drop j).take (k - j)], by omega, by omega, by simp; omega, by go_num, by go_num, hide (OwnS.snoc O2.out HX.out), HN, hide (Kept.below_own HB.out hsz HO.out K2.out)⟩
        case measure => simp [intOf]; omega
      · have hne : ((k : Int) == (s.size : Int)) = false := by simp; omega
        have hne2 : ((s[k].toNat : Int) == 47) = false := by simp; omega
        have HN := hide (cutAt_miss HC.out hlt hj (by intro e; apply hc; rw [e]; rfl))
        go_wp2
        go_roundw
        case rel => exact ⟨k + 1, j, q, by omega, by omega, by omega, by go_num, rfl, HO, HN, HB⟩
        case measure => simp [intOf]; omega
    · by_cases hk2 : k = s.size
      · subst hk2
        have HN := hide (show cutAt s.data.toList (q ++ [(s.data.toList.drop j).take (s.size - j)]) (s.size + 1) (s.size + 1) by have h := HC.out; rw [← HL.out] at h ⊢; exact cutAt_end h)
        go_wp2_with (at_builtin; refine wpList_append_one rfl (.tmp 26) (.tmp 31) 26 rfl w.heap.size 9 i1 (.string ⟨#[]⟩) 1 16 Tryz.underlying26 ki kz0 kz1 kz2 rfl (by decide) _ _ _ rfl HO.out rfl rfl (by intro u hu; simp at hu; subst hu; rfl) hm1 hm2 hsz ?_; intro v' w2 hown2 hkept; have O2 := hide hown2; have K2 := hide hkept; clear hown2 hkept)
        go_roundw
        case rel => exact ⟨s.size + 1, s.size + 1, q ++ [(s.data.toList.drop j).take (s.size - j)], by omega, by omega, by simp; omega, by go_num, by go_num, hide (OwnS.snoc O2.out HX.out), HN, hide (Kept.below_own HB.out hsz HO.out K2.out)⟩
        case measure => simp [intOf]
      · have hk3 : ¬ (k : Int) ≤ (s.size : Int) := by omega
        have HN := hide (HC.out.2 (by rw [HL.out]; omega))
        go_wp2
        go_ret
        exact ⟨_, rfl, by rw [← HN.out]; exact HO.out, HB.out⟩

end Go.Proofs.YtjkmbicedbdifaaGreat

namespace Go.Proofs.YtjkmbicedbdifaaGreat
open Go.RowKit
set_option linter.unusedVariables false

theorem str_append (a b : Bs) : str a ++ str b = str (a ++ b) := by
  apply ByteArray.ext
  simp [str]
theorem take_snoc_at {α : Type} {ps : List α} {k : Nat} {p : α} (h : ps[k]? = some p) : ps.take (k + 1) = ps.take k ++ [p] := by
  obtain ⟨hk, e⟩ := List.getElem?_eq_some_iff.1 h
  rw [List.take_succ_eq_append_getElem hk, e]
theorem join_step {ps : List Bs} {k : Nat} {p : Bs} (h : ps[k]? = some p) : joinB (ps.take (k + 1)) = joinB (ps.take k) ++ 47 :: p := by
  rw [take_snoc_at h, join_append]
  simp [joinB]
theorem join_str (x p : Bs) : str x ++ (⟨#[47]⟩ : ByteArray) ++ str p = str (x ++ 47 :: p) := by
  have e : (⟨#[47]⟩ : ByteArray) = str [47] := rfl
  rw [e, str_append, str_append]
  simp
theorem join_take_le (ps : List Bs) (k : Nat) : (joinB (ps.take k)).length ≤ (joinB ps).length := by
  conv => rhs; rw [← List.take_append_drop k ps, join_append]
  simp

set_option maxRecDepth 100000 in
set_option maxHeartbeats 800000 in
theorem l3Join_any (a : Option Addr) (cap : Nat) (ps : List Bs) (w : World) (h : ReadsS w a ps) (hn : ps.length ≤ 4194304) (hj : (joinB ps).length ≤ 4194304) (n : Nat) (hpn : n = ps.length) :
    Calls Tryz.prog 129 #[.slice a n cap] w fun e w' => e = .returned (.string (str (joinB ps))) ∧ w' = w := by
  have HR := hide h
  clear h
  subst hpn
  go_enter Tryz.func129, Tryz.ntmps129
  go_wp2
  go_loop [3, 4] (fun o i => ∃ (k : Nat) (x : Bs), k ≤ ps.length ∧ i = .int .i64 k ∧ o = .string (str x) ∧ Hid (x = joinB (ps.take k))) (fun _ i => ps.length - (intOf i).toNat)
  case atStart => exact ⟨0, [], Nat.zero_le _, rfl, rfl, hide rfl⟩
  case round =>
    obtain ⟨k, x, hk, rfl, rfl, HX⟩ := hrel
    by_cases hlt : k < ps.length
    · obtain ⟨b, off, p, rfl, hb, hp, hck⟩ := HR.out.at hlt
      have HE := hide (join_step hp)
      have hz := join_take_le ps (k + 1)
      rw [HE.out, ← HX.out] at hz
      simp only [List.length_append, List.length_cons] at hz
      have hz1 : ¬ 9223372036854775807 < (str x).size + 1 := by rw [str_size]; omega
      have hz2 : ¬ 9223372036854775807 < (str x).size + 1 + (str p).size := by rw [str_size, str_size]; omega
      have HP := hide hp
      clear hp
      go_wp2
      go_round
      case rel => exact ⟨k + 1, x ++ 47 :: p, by omega, by go_num, by rw [join_str], hide (by rw [HE.out, HX.out])⟩
      case measure => simp [intOf]; omega
    · have HE := hide (show ps.take k = ps from List.take_of_length_le (by omega))
      go_wp2
      go_ret
      exact ⟨ret_str (by rw [HX.out, HE.out]), rfl⟩

theorem head_tail (s : ByteArray) (h : 0 < s.size) : s.data.toList = s[0] :: s.data.toList.tail := by
  have hl : 0 < s.data.toList.length := by rw [← Lib.size_eq]; exact h
  cases e : s.data.toList with
  | nil => rw [e] at hl; simp at hl
  | cons c r =>
    have : s[0] = s.data.toList[0] := rfl
    simp [this, e]
theorem tail_data (s : ByteArray) : (s.extract 1 s.size).data.toList = s.data.toList.tail := by
  rw [Lib.extract_data, List.drop_one, List.take_of_length_le (by rw [List.length_tail, ← Lib.size_eq]; exact Nat.le_refl _)]
theorem extract_le (s : ByteArray) (a b : Nat) : (s.extract a b).size ≤ s.size := by
  rw [Lib.size_eq, Lib.extract_data, Lib.size_eq s]
  simp
  omega
theorem isEmpty_no {s : ByteArray} (h : 0 < s.size) : s.toList.isEmpty = false := by
  rw [ByteArray.toList_eq, head_tail s h]; rfl
theorem faultP_no {s : ByteArray} (h : 0 < s.size) (hc : s[0] ≠ 47) : faultP s.data.toList = 5 := by
  rw [head_tail s h]; simp [faultP, hc]
theorem faultP_yes {s : ByteArray} (h : 0 < s.size) (hc : s[0] = 47) : faultP s.data.toList = faultN (cutB s.data.toList.tail) := by
  conv => lhs; rw [head_tail s h]
  simp [faultP, hc]
theorem faultN_text {ns : List Bs} {k : Nat} {p : Bs} (h : ns[k]? = some p) (hp : plain p = false) : faultN ns = 5 := by
  have : ns.all plain = false := by rw [List.all_eq_false]; exact ⟨p, List.mem_of_getElem? h, by simp [hp]⟩
  simp [faultN, this]
theorem all_snoc {f : Bs → Bool} {ns : List Bs} {k : Nat} {p : Bs} (h : ns[k]? = some p) (ha : (ns.take k).all f = true) (hp : f p = true) : (ns.take (k + 1)).all f = true := by
  rw [take_snoc_at h]; simp [ha, hp]
theorem faultN_long {ns : List Bs} {k : Nat} {p : Bs} (ha : ns.all plain = true) (h : ns[k]? = some p) (hp : 4 < p.length) : faultN ns = 2 := by
  have : ns.all (fun n => decide (n.length ≤ 4)) = false := by rw [List.all_eq_false]; exact ⟨p, List.mem_of_getElem? h, by simp; omega⟩
  simp [faultN, ha, this]
theorem faultN_many {ns : List Bs} (ha : ns.all plain = true) (h : 3 < ns.length) : faultN ns = 2 := by
  have : ¬ ns.length ≤ 3 := by omega
  simp [faultN, ha, this]
theorem faultN_ok {ns : List Bs} (ha : ns.all plain = true) (hb : ns.all (fun n => decide (n.length ≤ 4)) = true) (h : ns.length ≤ 3) : faultN ns = 0 := by
  simp only [faultN, ha, hb, h, decide_true, Bool.and_self, if_true]
theorem all_end {f : Bs → Bool} {ns : List Bs} {k : Nat} (hk : ns.length ≤ k) (ha : (ns.take k).all f = true) : ns.all f = true := by
  rwa [List.take_of_length_le hk] at ha

set_option maxRecDepth 100000 in
set_option maxHeartbeats 1600000 in
theorem l3Fault_any (s : ByteArray) (w : World) (hs : s.size ≤ 2097152) :
    Calls Tryz.prog 90 #[.string s] w fun e w' => e = .returned (.int .i64 (faultP s.data.toList)) ∧ Below w.heap.size w w' := by
  by_cases h0 : 0 < s.size
  · have he := isEmpty_no h0
    by_cases hc : (s[0].toNat : Int) = 47
    · have HF := hide (faultP_yes h0 (by apply UInt8.toNat_inj.1; show _ = 47; omega))
      have HT := hide (tail_data s)
      have hel := extract_le s 1 s.size
      have hcl := cutB_length s.data.toList.tail
      have hel2 : s.data.toList.tail.length ≤ s.size := by rw [List.length_tail, ← Lib.size_eq]; omega
      have HEa := hide (cutB_each s.data.toList.tail)
      generalize hns : cutB s.data.toList.tail = ns at *
      have HN := hide hns
      clear hns
      have h1 : (1 : Int) ≤ (s.size : Int) := by omega
      go_enter Tryz.func90, Tryz.ntmps90
      go_wp2_with fail
      refine (l3Cut_any _ _ (by omega)).mono ?_
      rintro e w1 ⟨v, rfl, hO, hb1⟩
      rw [HT.out, HN.out] at hO
      obtain ⟨va, vc, rfl⟩ := hO.shape
      have HR := hide hO.reads
      have HB := hide hb1
      clear hO hb1
      go_wp2_with fail
      go_loop [4] (fun i => ∃ k : Nat, k ≤ ns.length ∧ i = .int .i64 k ∧ Hid ((ns.take k).all plain = true)) (fun i => ns.length - (intOf i).toNat)
      case atStart => exact ⟨0, Nat.zero_le _, rfl, hide (by simp)⟩
      case round =>
        obtain ⟨k, hk, rfl, HA⟩ := hrel
        by_cases hlt : k < ns.length
        · obtain ⟨b, off, p, rfl, hb, hp, hck⟩ := HR.out.at hlt
          have hpz : p.length ≤ 2097152 := by have := HEa.out p (List.mem_of_getElem? hp); omega
          have HP := hide hp
          clear hp
          cases hpl : plain p
          · have HZ := hide (faultN_text HP.out hpl)
            have HPL := hide hpl
            clear hpl
            go_wp2_with (go_at_call 126; refine (l3Plain_any _ _ (by rw [str_size]; omega)).mono ?_; rintro e w' ⟨rfl, rfl⟩; rw [str_data, HPL.out])
            go_ret
            exact ⟨ret_int (by rw [HF.out, HZ.out]), HB.out⟩
          · have HZ := hide (all_snoc HP.out HA.out hpl)
            have HPL := hide hpl
            clear hpl
            go_wp2_with (go_at_call 126; refine (l3Plain_any _ _ (by rw [str_size]; omega)).mono ?_; rintro e w' ⟨rfl, rfl⟩; rw [str_data, HPL.out])
            go_round
            case rel => exact ⟨k + 1, by omega, by go_num, HZ⟩
            case measure => simp [intOf]; omega
        · have HAll := hide (all_end (by omega) HA.out)
          clear HA
          go_wp2_with fail
          go_loop [5] (fun i => ∃ k : Nat, k ≤ ns.length ∧ i = .int .i64 k ∧ Hid ((ns.take k).all (fun n => decide (n.length ≤ 4)) = true)) (fun i => ns.length - (intOf i).toNat)
          case atStart => exact ⟨0, Nat.zero_le _, rfl, hide (by simp)⟩
          case round =>
            obtain ⟨m, hm, rfl, HA⟩ := hrel
            by_cases hlt2 : m < ns.length
            · obtain ⟨b, off, p, rfl, hb, hp, hck⟩ := HR.out.at hlt2
              have HP := hide hp
              clear hp
              by_cases hl4 : 4 < p.length
              · have HZ := hide (faultN_long HAll.out HP.out hl4)
                have hl5 : (4 : Int) < ((str p).size : Int) := by rw [str_size]; omega
                go_wp2_with fail
                go_ret
                exact ⟨ret_int (by rw [HF.out, HZ.out]), HB.out⟩
              · have HZ := hide (all_snoc HP.out HA.out (by simp; omega))
                have hl5 : ¬ (4 : Int) < ((str p).size : Int) := by rw [str_size]; omega
                go_wp2_with fail
                go_round
                case rel => exact ⟨m + 1, by omega, by go_num, HZ⟩
                case measure => simp [intOf]; omega
            · have HAll2 := hide (all_end (by omega) HA.out)
              clear HA
              by_cases hl3 : 3 < ns.length
              · have HZ := hide (faultN_many HAll.out hl3)
                have hl5 : (3 : Int) < (ns.length : Int) := by omega
                go_wp2_with fail
                go_ret
                exact ⟨ret_int (by rw [HF.out, HZ.out]), HB.out⟩
              · have HZ := hide (faultN_ok HAll.out HAll2.out (by omega))
                have hl5 : ¬ (3 : Int) < (ns.length : Int) := by omega
                go_wp2_with fail
                go_ret
                exact ⟨ret_int (by rw [HF.out, HZ.out]), HB.out⟩
    · have HF := hide (faultP_no h0 (by intro e; apply hc; rw [e]; rfl))
      have hc2 : ((s[0].toNat : Int) != 47) = true := by simp; omega
      go_enter Tryz.func90, Tryz.ntmps90
      go_wp2
      go_ret
      exact ⟨ret_int (by rw [HF.out]), Below.refl _ _⟩
  · have he : s = ⟨#[]⟩ := by
      have := Lib.size_eq s
      apply ByteArray.ext
      apply Array.toList_inj.1
      exact List.length_eq_zero_iff.1 (by omega)
    subst he
    go_enter Tryz.func90, Tryz.ntmps90
    go_wp2
    go_ret
    exact ⟨rfl, Below.refl _ _⟩

end Go.Proofs.YtjkmbicedbdifaaGreat

namespace Go.Proofs.YtjkmbicedbdifaaGreat
open Go.RowKit
set_option linter.unusedVariables false

/-- The first m of what is above. -/
def aboveK (ns : List Bs) (m : Nat) : List Bs := (List.range m).map fun k => joinB (ns.take (k + 1))
theorem aboveK_zero (ns : List Bs) : aboveK ns 0 = [] := rfl
theorem aboveK_succ (ns : List Bs) (m : Nat) : aboveK ns (m + 1) = aboveK ns m ++ [joinB (ns.take (m + 1))] := by simp [aboveK, List.range_succ]
theorem aboveK_length (ns : List Bs) (m : Nat) : (aboveK ns m).length = m := by simp [aboveK]
theorem join_cut_len (s : ByteArray) : (joinB (cutB s.data.toList.tail)).length ≤ s.size + 1 := by
  rw [join_cut, List.length_cons, List.length_tail, ← Lib.size_eq]; omega

set_option maxRecDepth 100000 in
set_option maxHeartbeats 1600000 in
theorem l3Above_any (s : ByteArray) (w : World) (h1 : 1 ≤ s.size) (hs : s.size ≤ 2097152) :
    Calls Tryz.prog 92 #[.string s] w fun e w' => ∃ v, e = .returned v ∧ OwnS w.heap.size w' v (aboveN (cutB s.data.toList.tail)) ∧ Below w.heap.size w w' := by
  obtain ⟨i1, ki, kz0, kz1, kz2⟩ := info_parts infoS
  have h1' : (1 : Int) ≤ (s.size : Int) := by omega
  have hel := extract_le s 1 s.size
  have HT := hide (tail_data s)
  have hcl := cutB_length s.data.toList.tail
  have hel2 : s.data.toList.tail.length ≤ s.size := by rw [List.length_tail, ← Lib.size_eq]; omega
  have hjl := join_cut_len s
  have hpos := List.length_pos_iff.2 (cutB_ne s.data.toList.tail)
  generalize hns : cutB s.data.toList.tail = ns at *
  have HN := hide hns
  clear hns
  go_enter Tryz.func92, Tryz.ntmps92
  go_wp2_with fail
  refine (l3Cut_any _ _ (by omega)).mono ?_
  rintro e w1 ⟨v, rfl, hO, hb1⟩
  rw [HT.out, HN.out] at hO
  obtain ⟨na, nc, rfl⟩ := hO.shape
  have hnc := hO.cap rfl
  have HR := hide hO.reads
  have HB := hide hb1
  have HPB := hide (fun b (hb : na.map Addr.block = some b) => hO.lt b (by cases na with | none => simp at hb | some x => simpa [Value.ownBlock] using hb))
  have n1 := hb1.size
  clear hO hb1
  go_wp2_with fail
  go_loopw [4, 5] (fun v i wr => ∃ m : Nat, m + 1 ≤ ns.length ∧ i = .int .i64 (m + 1) ∧ Hid (OwnS w1.heap.size wr v (aboveK ns m)) ∧ Hid (ReadsS wr na ns) ∧ Hid (Below w.heap.size w wr) ∧ w1.heap.size ≤ wr.heap.size) (fun _ i _ => ns.length - (intOf i).toNat)
  case atStart => exact ⟨0, by omega, rfl, hide (World.ownsRow_made (base := w1.heap.size) (e := 9) (size := 1) w1 #[] 0 (Nat.le_refl _) (Nat.zero_le _) rfl), hide (HR.out.below (below_alloc _ _)), hide (below_next HB.out (below_alloc _ _)), by simp⟩
  case round =>
    obtain ⟨m, hm, rfl, HO, HRr, HBr, hszr⟩ := hrel
    obtain ⟨va, vc, rfl⟩ := HO.out.shape
    rw [aboveK_length] at *
    by_cases hlt : m + 1 < ns.length
    · have hm1 : m + 1 ≤ maxLen := by unfold maxLen; omega
      have hm2 : (m + 1) * 16 ≤ 140737488355328 := by omega
      have hjt := join_take_le ns (m + 1)
      have hlt2 : (m : Int) + 1 < (ns.length : Int) := by omega
      have hcp : (m : Int) + 1 ≤ (nc : Int) := by omega
      have HO' := hide (show wr.ownsRow w1.heap.size 9 1 (.slice va m vc) m ((aboveK ns m).map vS) by have := HO.out; unfold OwnS at this; rwa [aboveK_length] at this)
      go_wp2_with (first | (go_at_call 129; refine (l3Join_any _ _ (ns.take (m + 1)) _ (HRr.out.take (m + 1)) (by simp; omega) (by omega) _ (by simp; omega)).mono ?_; rintro e w2 ⟨rfl, rfl⟩) | (at_builtin; refine wpList_append_one rfl (.tmp 16) (.tmp 21) 26 rfl w1.heap.size 9 i1 (.string ⟨#[]⟩) 1 16 Tryz.underlying26 ki kz0 kz1 kz2 rfl (by decide) _ _ _ rfl HO'.out rfl rfl (by intro u hu; simp at hu; subst hu; rfl) hm1 hm2 hszr ?_; intro v' w3 hown2 hkept; have O2 := hide hown2; have K2 := hide hkept; clear hown2 hkept))
      go_roundw
      case rel => exact ⟨m + 1, by omega, by go_num, hide (by rw [aboveK_succ]; exact OwnS.snoc (ps := aboveK ns m) (by rw [aboveK_length]; exact O2.out) rfl), hide (HRr.out.kept K2.out (fun _ x hx hS => by have h1 := (HPB.out x.block (by rw [hx]; rfl)).2; have h2 := (HO'.out.lt _ hS).1; omega)), hide (HBr.out.trans (K2.out.below (by omega) (fun b hb hS => by have := (HO'.out.lt _ hS).1; omega))), by have := K2.out.size; omega⟩
      case measure => simp [intOf]; omega
    · have hlt2 : ¬ (m : Int) + 1 < (ns.length : Int) := by omega
      have HE := hide (show aboveN ns = aboveK ns m by unfold aboveN aboveK; rw [show ns.length - 1 = m by omega])
      go_wp2_with fail
      go_ret
      exact ⟨_, rfl, by rw [HE.out]; exact HO.out.mono n1, HBr.out⟩

theorem faultP_pos {s : ByteArray} (h : faultP s.data.toList = 0) : 1 ≤ s.size := by
  obtain ⟨ns, _, _, _, e⟩ := faultP_zero h
  have := congrArg List.length e
  rw [← Lib.size_eq] at this
  simp at this
  omega
theorem above_bad {p : Bs} (h : faultP p ≠ 0) : above p = [] := by simp [above, h]
theorem above_good {p : Bs} (h : faultP p = 0) : above p = aboveN (cutB p.tail) := by simp [above, h]
theorem above_len (p : Bs) : (above p).length ≤ 2 := by
  by_cases h : faultP p = 0
  · obtain ⟨ns, hN, _, hc, _⟩ := faultP_zero h
    rw [above_good h, aboveN_length, hc]
    have := hN.2.2.2
    omega
  · rw [above_bad h]; simp



/-- What ParentOf and LastOf answer. -/
def parC (p : Bs) : Int := if faultP p = 0 then (if above p = [] then 4 else 0) else faultP p
def parT (p : Bs) : Bs := (above p).getLastD []
def lastT (p : Bs) : Bs := if faultP p = 0 then lastN (cutB p.tail) else []

theorem getLast_at {l : List Bs} (h : l ≠ []) : l[l.length - 1]? = some (l.getLastD []) := by
  rw [List.getLastD_eq_getLast?, List.getLast?_eq_getElem?]
  have : l.length - 1 < l.length := by have := List.length_pos_iff.2 h; omega
  simp [this]
theorem aboveN_getLast_ne {ns : List Bs} (h : aboveN ns ≠ []) : (aboveN ns).getLastD [] ≠ [] := by
  have hm : (aboveN ns).getLastD [] ∈ aboveN ns := List.mem_of_getElem? (getLast_at h)
  obtain ⟨k, h0, hk, e⟩ := mem_aboveN.1 hm
  rw [e]
  cases ns with
  | nil => simp at hk
  | cons n ns =>
    cases k with
    | zero => omega
    | succ k => simp [joinB]

set_option maxRecDepth 100000 in
set_option maxHeartbeats 800000 in
theorem l3Parent_any (s : ByteArray) (w : World) (h1 : 1 ≤ s.size) (hs : s.size ≤ 2097152) :
    Calls Tryz.prog 88 #[.string s] w fun e w' => e = .returned (.string (str ((aboveN (cutB s.data.toList.tail)).getLastD []))) ∧ Below w.heap.size w w' := by
  have hlen : (aboveN (cutB s.data.toList.tail)).length ≤ 4194304 := by
    have hlen := aboveN_length (cutB s.data.toList.tail)
    have hcl := cutB_length s.data.toList.tail
    have hel2 : s.data.toList.tail.length ≤ s.size := by rw [List.length_tail, ← Lib.size_eq]; omega
    omega
  obtain ⟨ab, hab⟩ : ∃ ab, ab = aboveN (cutB s.data.toList.tail) := ⟨_, rfl⟩
  rw [← hab] at hlen ⊢
  have HAB := hide hab
  clear hab
  go_enter Tryz.func88, Tryz.ntmps88
  go_wp2_with fail
  refine (l3Above_any _ _ h1 hs).mono ?_
  rintro e w1 ⟨v, rfl, hO, hb1⟩
  rw [← HAB.out] at hO
  obtain ⟨va, vc, rfl⟩ := hO.shape
  have HB := hide hb1
  clear hb1
  by_cases h0 : ab = []
  · subst h0
    go_wp2_with fail
    go_ret
    exact ⟨rfl, HB.out⟩
  · have hp := List.length_pos_iff.2 h0
    obtain ⟨b, off, p, rfl, hb, hpe, hck⟩ := hO.reads.at (k := ab.length - 1) (by omega)
    have HP := hide (Option.some.inj (hpe.symm.trans (getLast_at h0)))
    clear hpe hO
    have hz : ((ab.length : Int) == 0) = false := by simp; omega
    have hp' : (1 : Int) ≤ (ab.length : Int) := by omega
    have hp2 : (ab.length : Int) ≤ 4194304 := by omega
    go_wp2_with fail
    go_ret
    exact ⟨ret_str (by rw [HP.out]), HB.out⟩

theorem par_bad {p : Bs} (h : faultP p ≠ 0) : parC p = faultP p ∧ parT p = [] := by simp [parC, parT, h, above_bad h]
theorem par_none {p : Bs} (h : faultP p = 0) (ha : aboveN (cutB p.tail) = []) : parC p = 4 ∧ parT p = [] := by
  have e := above_good h
  rw [ha] at e
  simp [parC, parT, h, e]
theorem par_good {p : Bs} (h : faultP p = 0) (ha : aboveN (cutB p.tail) ≠ []) : parC p = 0 ∧ parT p = (aboveN (cutB p.tail)).getLastD [] := by
  have e := above_good h
  exact ⟨by simp [parC, h, e, ha], by rw [parT, e]⟩


set_option maxRecDepth 100000 in
set_option maxHeartbeats 800000 in
theorem l3Last_any (s : ByteArray) (w : World) (h1 : 1 ≤ s.size) (hs : s.size ≤ 2097152) :
    Calls Tryz.prog 87 #[.string s] w fun e w' => e = .returned (.string (str (lastN (cutB s.data.toList.tail)))) ∧ Below w.heap.size w w' := by
  have h1' : (1 : Int) ≤ (s.size : Int) := by omega
  have hel := extract_le s 1 s.size
  have HT := hide (tail_data s)
  have hcl := cutB_length s.data.toList.tail
  have hel2 : s.data.toList.tail.length ≤ s.size := by rw [List.length_tail, ← Lib.size_eq]; omega
  have h0 := cutB_ne s.data.toList.tail
  obtain ⟨ns, hns⟩ : ∃ ns, ns = cutB s.data.toList.tail := ⟨_, rfl⟩
  rw [← hns] at hcl h0 ⊢
  have HN := hide hns
  clear hns
  go_enter Tryz.func87, Tryz.ntmps87
  go_wp2_with fail
  refine (l3Cut_any _ _ (by omega)).mono ?_
  rintro e w1 ⟨v, rfl, hO, hb1⟩
  rw [HT.out, ← HN.out] at hO
  obtain ⟨va, vc, rfl⟩ := hO.shape
  have HB := hide hb1
  clear hb1
  have hp := List.length_pos_iff.2 h0
  obtain ⟨b, off, p, rfl, hb, hpe, hck⟩ := hO.reads.at (k := ns.length - 1) (by omega)
  have HP := hide (Option.some.inj (hpe.symm.trans (getLast_at h0)))
  clear hpe hO
  have hp' : (1 : Int) ≤ (ns.length : Int) := by omega
  have hp2 : (ns.length : Int) ≤ 4194304 := by omega
  go_wp2_with fail
  go_ret
  exact ⟨ret_str (by rw [HP.out]; rfl), HB.out⟩

theorem last_bad {p : Bs} (h : faultP p ≠ 0) : lastT p = [] := by simp [lastT, h]
theorem last_good {p : Bs} (h : faultP p = 0) : lastT p = lastN (cutB p.tail) := by simp [lastT, h]


theorem belowB_short {s t : ByteArray} (h : ¬ t.size + 1 < s.size) : belowB s.data.toList t.data.toList = false := by
  simp [belowB, h]
theorem belowB_part {s t : ByteArray} (h : t.size + 1 < s.size) (h2 : ((s.extract 0 t.size).toList == t.toList) = false) : belowB s.data.toList t.data.toList = false := by
  rw [Lib.extract_toList, ByteArray.toList_eq, List.drop_zero, Nat.sub_zero] at h2
  simp only [belowB, ← Lib.size_eq, h2, Bool.and_false, Bool.false_and]
theorem belowB_whole {s t : ByteArray} (h : t.size + 1 < s.size) (h2 : ((s.extract 0 t.size).toList == t.toList) = true) : belowB s.data.toList t.data.toList = ((s[t.size].toNat : Int) == 47) := by
  rw [Lib.extract_toList, ByteArray.toList_eq, List.drop_zero, Nat.sub_zero] at h2
  have hl : t.size < s.data.toList.length := by rw [← Lib.size_eq]; omega
  have e : (s.data.toList.drop t.size).head? = some s[t.size] := by
    rw [List.head?_drop, List.getElem?_eq_getElem hl]; rfl
  simp only [belowB, ← Lib.size_eq, h2, h, e, decide_true, Bool.true_and]
  rw [Bool.eq_iff_iff]
  simp only [beq_iff_eq, Option.some.injEq]
  constructor
  · intro h; rw [h]; rfl
  · intro h; apply UInt8.toNat_inj.1; show _ = 47; omega

set_option maxRecDepth 100000 in
set_option maxHeartbeats 800000 in
theorem l3Below_any (s t : ByteArray) (w : World) (hs : s.size ≤ 2097152) (ht : t.size ≤ 2097152) :
    Calls Tryz.prog 130 #[.string s, .string t] w fun e w' => e = .returned (.bool (belowB s.data.toList t.data.toList)) ∧ w' = w := by
  by_cases h : t.size + 1 < s.size
  · have h' : (t.size : Int) + 1 < (s.size : Int) := by omega
    have h3 : (t.size : Int) ≤ (s.size : Int) := by omega
    have h4 : t.size < s.size := by omega
    cases h2 : ((s.extract 0 t.size).toList == t.toList)
    · have HE := hide (belowB_part h h2)
      go_enter Tryz.func130, Tryz.ntmps130
      go_wp2_with fail
      go_ret
      exact ⟨ret_bool HE.out.symm, rfl⟩
    · have HE := hide (belowB_whole h h2)
      go_enter Tryz.func130, Tryz.ntmps130
      go_wp2_with fail
      go_ret
      exact ⟨ret_bool HE.out.symm, rfl⟩
  · have h' : ¬ (t.size : Int) + 1 < (s.size : Int) := by omega
    have HE := hide (belowB_short h)
    go_enter Tryz.func130, Tryz.ntmps130
    go_wp2_with fail
    go_ret
    exact ⟨ret_bool HE.out.symm, rfl⟩

/-- What IsBelow answers. -/
def isBelow (p t : Bs) : Bool := decide (t ∈ above p)
theorem isBelow_bad {p t : Bs} (h : faultP p ≠ 0) : isBelow p t = false := by simp [isBelow, above_bad h]
theorem isBelow_good {p t : Bs} (h : faultP p = 0) : isBelow p t = decide (faultP t = 0 ∧ belowB p t = true) := by
  simp only [isBelow, above_good h, above_iff h]


end Go.Proofs.YtjkmbicedbdifaaGreat

namespace Go.Proofs.YtjkmbicedbdifaaGreat
set_option linter.unusedVariables false

structure En where
  path : Bs
  kind : Int
  size : Int
  chunks : List Int
  deriving DecidableEq

def isDig (c : Int) : Bool := decide (0 ≤ c ∧ c ≤ 4294967295)
/-- Kind, Size and Chunks go together. -/
def formE (e : En) : Bool := decide ((1 ≤ e.kind ∧ e.kind ≤ 4) ∧ (e.kind = 1 ∨ (e.size = 0 ∧ e.chunks.length = 0)))
def sizeE (e : En) : Bool := decide (0 ≤ e.size ∧ e.size ≤ 24)
def manyE (e : En) : Bool := decide ((e.chunks.length : Int) = (e.size + 7) / 8)
/-- What EntryFault answers. -/
def entFault (e : En) : Int :=
  if faultP e.path = 0 then (if formE e then (if sizeE e then (if manyE e then (if e.chunks.all isDig then 0 else 3) else 1) else 3) else 1) else faultP e.path
theorem entFault_path {e : En} (h : faultP e.path ≠ 0) : entFault e = faultP e.path := by simp [entFault, h]
theorem entFault_form {e : En} (h : faultP e.path = 0) (h1 : formE e = false) : entFault e = 1 := by simp [entFault, h, h1]
theorem entFault_size {e : En} (h : faultP e.path = 0) (h1 : formE e = true) (h2 : sizeE e = false) : entFault e = 3 := by simp [entFault, h, h1, h2]
theorem entFault_many {e : En} (h : faultP e.path = 0) (h1 : formE e = true) (h2 : sizeE e = true) (h3 : manyE e = false) : entFault e = 1 := by simp [entFault, h, h1, h2, h3]
theorem entFault_digs {e : En} (h : faultP e.path = 0) (h1 : formE e = true) (h2 : sizeE e = true) (h3 : manyE e = true) : entFault e = if e.chunks.all isDig then 0 else 3 := by simp [entFault, h, h1, h2, h3]

def dirK (k : Int) : Bool := decide (k = 2 ∨ k = 4)
/-- The first entry of a path. -/
def findE (es : List En) (p : Bs) : Option En := es.find? fun e => decide (e.path = p)
/-- The path above; none: empty. -/
def parentP (p : Bs) : Bs := (aboveN (cutB p.tail)).getLastD []
/-- Is the parent of a path a directory of the layer? -/
def homeE (es : List En) (p : Bs) : Bool :=
  if parentP p = [] then true else
    match findE es (parentP p) with
    | none => false
    | some e => dirK e.kind
/-- Is a path not above the one ahead? -/
def lowE (prev : Option En) (e : En) : Bool :=
  match prev with
  | none => false
  | some q => Op.bytesLess e.path q.path || (e.path == q.path)
/-- The fault of one entry of a layer. -/
def entBad (es : List En) (prev : Option En) (e : En) : Int := if entFault e = 0 then (if lowE prev e then 1 else if homeE es e.path then 0 else 9) else entFault e
def layFrom (es : List En) : Option En → List En → Int
  | _, [] => 0
  | prev, e :: r => if entBad es prev e = 0 then layFrom es (some e) r else entBad es prev e
/-- What LayerFault answers. -/
def layFault (es : List En) : Int := if 12 < es.length then 2 else layFrom es none es
/-- The entry ahead of place i. -/
def prevE (es : List En) (i : Nat) : Option En := if i = 0 then none else es[i - 1]?
theorem layFrom_step {es : List En} {i : Nat} {e : En} (h : es[i]? = some e) : layFrom es (prevE es i) (es.drop i) = if entBad es (prevE es i) e = 0 then layFrom es (prevE es (i + 1)) (es.drop (i + 1)) else entBad es (prevE es i) e := by
  obtain ⟨hi, he⟩ := List.getElem?_eq_some_iff.1 h
  have e1 : prevE es (i + 1) = some e := by simp [prevE, h]
  rw [e1, List.drop_eq_getElem_cons hi, he]
  rfl

end Go.Proofs.YtjkmbicedbdifaaGreat

namespace Go.Proofs.YtjkmbicedbdifaaGreat
open Go.RowKit
set_option linter.unusedVariables false

/-- The slice at address a reads as the entries es. -/
def RdE (w : World) (a : Option Addr) (es : List En) : Prop :=
  es ≠ [] → ∃ (b off : Nat) (A : Nat → Option Addr) (C : Nat → Nat), a = some ⟨b, off, none⟩ ∧ b < w.heap.size ∧ ∀ i e, es[i]? = some e →
    w.cell? ⟨b, off + i * 4, none⟩ = some (.string (str e.path)) ∧ w.cell? ⟨b, off + i * 4 + 1, none⟩ = some (.int .i64 e.kind) ∧ w.cell? ⟨b, off + i * 4 + 2, none⟩ = some (.int .i64 e.size) ∧
    w.cell? ⟨b, off + i * 4 + 3, none⟩ = some (.slice (A i) e.chunks.length (C i)) ∧ Reads .i64 w (A i) e.chunks
theorem RdE.kept {S : Nat → Prop} {w w' : World} {a : Option Addr} {es : List En} (h : RdE w a es) (hk : Below w.heap.size w w') : RdE w' a es := by
  intro hz
  obtain ⟨b, off, A, C, e, hb, hc⟩ := h hz
  refine ⟨b, off, A, C, e, Nat.lt_of_lt_of_le hb hk.size, fun i x hx => ?_⟩
  obtain ⟨c0, c1, c2, c3, r⟩ := hc i x hx
  exact ⟨(hk.cell (p := ⟨b, off + i * 4, none⟩) hb).trans c0, (hk.cell (p := ⟨b, off + i * 4 + 1, none⟩) hb).trans c1, (hk.cell (p := ⟨b, off + i * 4 + 2, none⟩) hb).trans c2, (hk.cell (p := ⟨b, off + i * 4 + 3, none⟩) hb).trans c3, r.below hk⟩
theorem RdE.below {w w' : World} {a : Option Addr} {es : List En} (h : RdE w a es) (hk : Below w.heap.size w w') : RdE w' a es := h.kept (S := fun _ => False) hk
theorem RdE.at {w : World} {a : Option Addr} {es : List En} (h : RdE w a es) {k : Nat} (hk : k < es.length) :
    ∃ b off e x c, a = some ⟨b, off, none⟩ ∧ b < w.heap.size ∧ es[k]? = some e ∧ w.cell? ⟨b, off + k * 4, none⟩ = some (.string (str e.path)) ∧ w.cell? ⟨b, off + k * 4 + 1, none⟩ = some (.int .i64 e.kind) ∧ w.cell? ⟨b, off + k * 4 + 2, none⟩ = some (.int .i64 e.size) ∧
      w.cell? ⟨b, off + k * 4 + 3, none⟩ = some (.slice x e.chunks.length c) ∧ Reads .i64 w x e.chunks := by
  obtain ⟨b, off, A, C, e, hb, hc⟩ := h (by intro e; simp [e] at hk)
  have hx : es[k]? = some es[k] := List.getElem?_eq_getElem hk
  obtain ⟨c0, c1, c2, c3, r⟩ := hc k _ hx
  exact ⟨b, off, es[k], A k, C k, e, hb, hx, c0, c1, c2, c3, r⟩
/-- Entries that the reckoning may go through. -/
def SmallE (es : List En) : Prop := ∀ e ∈ es, e.path.length ≤ 1048576 ∧ e.chunks.length ≤ 1048576

theorem l1In_yes (n a b : Int) (w : World) (h0 : a ≤ n) (h1 : n ≤ b) :
    Calls Tryz.prog 141 #[.int .i64 n, .int .i64 a, .int .i64 b] w fun e w' => e = .returned (.bool true) ∧ w' = w := by
  go_enter Tryz.func141, Tryz.ntmps141
  go_wp2
  go_ret
  exact ⟨rfl, rfl⟩
theorem l1In_no (n a b : Int) (w : World) (h : n < a ∨ b < n) :
    Calls Tryz.prog 141 #[.int .i64 n, .int .i64 a, .int .i64 b] w fun e w' => e = .returned (.bool false) ∧ w' = w := by
  by_cases h0 : a ≤ n
  · have h1 : ¬ n ≤ b := by omega
    go_enter Tryz.func141, Tryz.ntmps141
    go_wp2
    go_ret
    exact ⟨rfl, rfl⟩
  · go_enter Tryz.func141, Tryz.ntmps141
    go_wp2
    go_ret
    exact ⟨rfl, rfl⟩

theorem l1Digest_any (n : Int) (w : World) : Calls Tryz.prog 143 #[.int .i64 n] w fun e w' => e = .returned (.bool (isDig n)) ∧ w' = w := by
  by_cases h : 0 ≤ n ∧ n ≤ 4294967295
  · have e : isDig n = true := decide_eq_true h
    rw [e]
    obtain ⟨h0, h1⟩ := h
    go_enter Tryz.func143, Tryz.ntmps143
    go_wp2_with (go_at_call 141; refine (l1In_yes _ _ _ _ h0 h1).mono ?_; rintro e w' ⟨rfl, rfl⟩)
    go_ret
    exact ⟨rfl, rfl⟩
  · have e : isDig n = false := decide_eq_false h
    rw [e]
    go_enter Tryz.func143, Tryz.ntmps143
    go_wp2_with (go_at_call 141; refine (l1In_no _ _ _ _ (by omega)).mono ?_; rintro e w' ⟨rfl, rfl⟩)
    go_ret
    exact ⟨rfl, rfl⟩

end Go.Proofs.YtjkmbicedbdifaaGreat

namespace Go.Proofs.YtjkmbicedbdifaaGreat
open Go.RowKit
set_option linter.unusedVariables false

/-- Four cells of a block, that may be written. -/
def Four (w : World) (b : Nat) (u0 u1 u2 u3 : Value) : Prop := w.cell? ⟨b, 0, none⟩ = some u0 ∧ w.cell? ⟨b, 1, none⟩ = some u1 ∧ w.cell? ⟨b, 2, none⟩ = some u2 ∧ w.cell? ⟨b, 3, none⟩ = some u3
theorem Four.new (w : World) (u0 u1 u2 u3 : Value) (t : TypeId) : Four (w.alloc (.cells #[u0, u1, u2, u3] t)) w.heap.size u0 u1 u2 u3 := ⟨by simp, by simp, by simp, by simp⟩
theorem Four.lt {w : World} {b : Nat} {u0 u1 u2 u3 : Value} (h : Four w b u0 u1 u2 u3) : b < w.heap.size := World.block_lt_of_cell? w ⟨b, 0, none⟩ h.1
theorem Four.below {w w' : World} {b : Nat} {u0 u1 u2 u3 : Value} (h : Four w b u0 u1 u2 u3) (hk : Below w.heap.size w w') : Four w' b u0 u1 u2 u3 :=
  ⟨(hk.cell (p := ⟨b, 0, none⟩) h.lt).trans h.1, (hk.cell (p := ⟨b, 1, none⟩) h.lt).trans h.2.1, (hk.cell (p := ⟨b, 2, none⟩) h.lt).trans h.2.2.1, (hk.cell (p := ⟨b, 3, none⟩) h.lt).trans h.2.2.2⟩

theorem l4For_any (n : Int) (w : World) (h0 : 0 ≤ n) (h1 : n ≤ 24) : Calls Tryz.prog 142 #[.int .i64 n] w fun e w' => e = .returned (.int .i64 ((n + 7) / 8)) ∧ w' = w := by
  have e : (n + 7) / 8 = (n + 8 - 1).tdiv 8 := by rw [Int.tdiv_eq_ediv_of_nonneg (by omega)]; congr 1; omega
  rw [e]
  go_enter Tryz.func142, Tryz.ntmps142
  go_wp2
  go_ret
  exact ⟨rfl, rfl⟩

set_option maxRecDepth 100000 in
set_option maxHeartbeats 1600000 in
theorem specEntryFault_any (e : En) (x : Option Addr) (c n : Nat) (w : World) (h : Reads .i64 w x e.chunks) (hn : n = e.chunks.length) (hp : e.path.length ≤ 1048576) (hc : e.chunks.length ≤ 1048576) :
    Calls Tryz.prog 109 #[.agg #[.string (str e.path), .int .i64 e.kind, .int .i64 e.size, .slice x n c]] w fun r w' => r = .returned (.int .i64 (entFault e)) ∧ Below w.heap.size w w' := by
  subst hn
  have HR := hide h
  clear h
  have HN := hide (below_alloc w (.cells #[.string (str e.path), .int .i64 e.kind, .int .i64 e.size, .slice x e.chunks.length c] 40))
  have HB := hide (Four.new w (.string (str e.path)) (.int .i64 e.kind) (.int .i64 e.size) (.slice x e.chunks.length c) 40)
  by_cases hf : faultP e.path = 0
  · go_enter Tryz.func109, Tryz.ntmps109
    go_wp2_with fail
    refine (l3Fault_any _ _ (by rw [str_size]; omega)).mono ?_
    rintro r w1 ⟨rfl, hb1⟩
    rw [str_data, hf]
    have HB1 := hide (below_next HN.out hb1)
    have HR1 := hide (HR.out.below HB1.out)
    have hB := HB.out.below hb1
    clear HB HR HN hb1
    obtain ⟨c0, c1, c2, c3⟩ := hB
    generalize w.heap.size = bk at c0 c1 c2 c3 ⊢
    by_cases hk : 1 ≤ e.kind ∧ e.kind ≤ 4
    · by_cases hk1 : e.kind = 1
      · have hfm : formE e = true := decide_eq_true ⟨hk, Or.inl hk1⟩
        have hkn : (e.kind != 1) = false := by simp [hk1]
        have HK := hide hk1
        clear hk1
        have HI := hide (l1In_yes e.kind 1 4 w1 hk.1 hk.2)
        by_cases hz : 0 ≤ e.size ∧ e.size ≤ 24
        · have HZ := hide (l1In_yes e.size 0 24 w1 hz.1 hz.2)
          have HFo := hide (fun u => l4For_any e.size u hz.1 hz.2)
          by_cases hm : (e.chunks.length : Int) = (e.size + 7) / 8
          · have HE := hide (entFault_digs hf hfm (decide_eq_true hz) (decide_eq_true hm))
            have hmn : ((e.chunks.length : Int) != (e.size + 7) / 8) = false := by simp; exact hm
            clear hfm hf hm
            go_wp2_with fail
            refine HI.out.mono ?_
            rintro r w' ⟨rfl, rfl⟩
            go_wp2_with fail
            refine HZ.out.mono ?_
            rintro r w' ⟨rfl, rfl⟩
            go_wp2_with fail
            go_region_held3 (fun w' => w'.cell? ⟨bk, 2, none⟩ = some (.int .i64 e.size) ∧ w'.cell? ⟨bk, 3, none⟩ = some (.slice x e.chunks.length c)) (first | trivial | go_keep)
              ((first
                | (go_at_call 142; refine (HFo.out _).mono ?_; rintro r w' ⟨rfl, rfl⟩)))
            go_wp2_with fail
            clear hmn
            have d3 : w'.drew.cell? ⟨bk, 3, none⟩ = some (.slice x e.chunks.length c) := c3
            have HR2 := hide (HR1.out.below (Below.refl w'.heap.size w').drew)
            have HB2 := hide HB1.out.drew
            clear c0 c1 c2 c3 HR1 HB1 HI HZ
            generalize w'.drew = W at *
            go_loop [4] (fun i => ∃ k : Nat, k ≤ e.chunks.length ∧ i = .int .i64 k ∧ Hid ((e.chunks.take k).all isDig = true)) (fun i => e.chunks.length - (intOf i).toNat)
            case atStart => exact ⟨0, Nat.zero_le _, rfl, hide (by simp)⟩
            case round =>
              obtain ⟨k, hk, rfl, HA⟩ := hrel
              by_cases hlt : k < e.chunks.length
              · obtain ⟨b, off, rfl, hb1, hcc⟩ := HR2.out (by intro e; simp [e] at hlt)
                have hc1 := hcc k hlt
                have hzk : e.chunks[k]? = some (e.chunks.getD k 0) := by rw [List.getD_eq_getElem?_getD, List.getElem?_eq_getElem hlt]; rfl
                generalize e.chunks.getD k 0 = z at hc1 hzk
                have HZ := hide hzk
                clear hcc hzk
                cases hd : isDig z
                · have HX := hide (show e.chunks.all isDig = false from by rw [List.all_eq_false]; exact ⟨z, List.mem_of_getElem? HZ.out, by simp [hd]⟩)
                  have HD := hide hd
                  clear hd
                  go_wp2_with fail
                  refine (l1Digest_any _ _).mono ?_
                  rintro r w'' ⟨rfl, rfl⟩
                  rw [HD.out]
                  go_wp2_with fail
                  go_ret
                  exact ⟨ret_int (by rw [HE.out, HX.out]; rfl), HB2.out⟩
                · have HX := hide (show (e.chunks.take (k + 1)).all isDig = true from by rw [take_snoc_at HZ.out]; simp [HA.out, hd])
                  have HD := hide hd
                  clear hd
                  go_wp2_with fail
                  refine (l1Digest_any _ _).mono ?_
                  rintro r w'' ⟨rfl, rfl⟩
                  rw [HD.out]
                  go_wp2_with fail
                  go_round
                  case rel => exact ⟨k + 1, by omega, by go_num, HX⟩
                  case measure => simp [intOf]; omega
              · have HX := hide (show e.chunks.all isDig = true from by have := HA.out; rwa [List.take_of_length_le (by omega)] at this)
                go_wp2_with fail
                go_ret
                exact ⟨ret_int (by rw [HE.out, HX.out]; rfl), HB2.out⟩
          · have HE := hide (entFault_many hf hfm (decide_eq_true hz) (decide_eq_false hm))
            have hmn : ((e.chunks.length : Int) != (e.size + 7) / 8) = true := by simp; exact hm
            clear hfm hf hm
            go_wp2_with fail
            refine HI.out.mono ?_
            rintro r w' ⟨rfl, rfl⟩
            go_wp2_with fail
            refine HZ.out.mono ?_
            rintro r w' ⟨rfl, rfl⟩
            go_wp2_with fail
            go_region_held3 (fun w' => w'.cell? ⟨bk, 2, none⟩ = some (.int .i64 e.size) ∧ w'.cell? ⟨bk, 3, none⟩ = some (.slice x e.chunks.length c)) (first | trivial | go_keep)
              ((first
                | (go_at_call 142; refine (HFo.out _).mono ?_; rintro r w' ⟨rfl, rfl⟩)))
            go_wp2_with fail
            go_ret
            exact ⟨ret_int HE.out.symm, HB1.out.drew⟩
        · have HZ := hide (l1In_no e.size 0 24 w1 (by omega))
          have HE := hide (entFault_size hf hfm (decide_eq_false hz))
          clear hfm hf
          go_wp2_with fail
          refine HI.out.mono ?_
          rintro r w' ⟨rfl, rfl⟩
          go_wp2_with fail
          refine HZ.out.mono ?_
          rintro r w' ⟨rfl, rfl⟩
          go_wp2_with fail
          go_ret
          exact ⟨ret_int HE.out.symm, HB1.out⟩
      · have hkn : (e.kind != 1) = true := by simp; exact hk1
        have HI := hide (l1In_yes e.kind 1 4 w1 hk.1 hk.2)
        by_cases hz : e.size = 0
        · have hzn : (e.size != 0) = false := by simp; exact hz
          by_cases hl : e.chunks.length = 0
          · have HE := hide (show entFault e = 0 from by
              have e0 : e.chunks = [] := List.length_eq_zero_iff.1 hl
              rw [entFault_digs hf (decide_eq_true ⟨hk, Or.inr ⟨hz, hl⟩⟩) (decide_eq_true (by omega)) (decide_eq_true (by rw [hl, hz]; rfl)), e0]; rfl)
            have hl0 : ¬ (0 : Int) < (e.chunks.length : Int) := by omega
            have HZ := hide (l1In_yes e.size 0 24 w1 (by omega) (by omega))
            have HFo := hide (fun u => l4For_any e.size u (by omega) (by omega))
            have hmn : ((e.chunks.length : Int) != (e.size + 7) / 8) = false := by rw [hl, hz]; rfl
            clear hf hl hz hk1
            go_wp2_with fail
            refine HI.out.mono ?_
            rintro r w' ⟨rfl, rfl⟩
            go_wp2_with fail
            refine HZ.out.mono ?_
            rintro r w' ⟨rfl, rfl⟩
            go_wp2_with fail
            go_region_held3 (fun w' => w'.cell? ⟨bk, 2, none⟩ = some (.int .i64 e.size) ∧ w'.cell? ⟨bk, 3, none⟩ = some (.slice x e.chunks.length c)) (first | trivial | go_keep)
              ((first
                | (go_at_call 142; refine (HFo.out _).mono ?_; rintro r w' ⟨rfl, rfl⟩)))
            go_wp2_with fail
            have d3 : w'.drew.cell? ⟨bk, 3, none⟩ = some (.slice x e.chunks.length c) := c3
            have HB2 := hide HB1.out.drew
            clear c0 c1 c2 c3 HR1 HB1 HI HZ hmn
            generalize w'.drew = W at *
            go_rounds 1
            go_ret
            exact ⟨ret_int HE.out.symm, HB2.out⟩
          · have HE := hide (entFault_form hf (decide_eq_false (fun h => h.2.elim hk1 (fun h => hl h.2))))
            have hl0 : (0 : Int) < (e.chunks.length : Int) := by omega
            clear hf hl hz hk1
            go_wp2_with fail
            refine HI.out.mono ?_
            rintro r w' ⟨rfl, rfl⟩
            go_wp2_with fail
            go_ret
            exact ⟨ret_int HE.out.symm, HB1.out⟩
        · have HE := hide (entFault_form hf (decide_eq_false (fun h => h.2.elim hk1 (fun h => hz h.1))))
          have hzn : (e.size != 0) = true := by simp; exact hz
          clear hf hz hk1
          go_wp2_with fail
          refine HI.out.mono ?_
          rintro r w' ⟨rfl, rfl⟩
          go_wp2_with fail
          go_ret
          exact ⟨ret_int HE.out.symm, HB1.out⟩
    · have HE := hide (entFault_form hf (decide_eq_false (fun h => hk h.1)))
      have HI := hide (l1In_no e.kind 1 4 w1 (by omega))
      clear hf
      go_wp2_with fail
      refine HI.out.mono ?_
      rintro r w' ⟨rfl, rfl⟩
      go_wp2_with fail
      go_ret
      exact ⟨ret_int HE.out.symm, HB1.out⟩
  · rw [entFault_path hf]
    go_enter Tryz.func109, Tryz.ntmps109
    go_wp2_with fail
    refine (l3Fault_any _ _ (by rw [str_size]; omega)).mono ?_
    rintro r w1 ⟨rfl, hb1⟩
    rw [str_data]
    have HB1 := hide (below_next HN.out hb1)
    clear hb1 HN HB HR
    go_wp2_with fail
    go_ret
    exact ⟨rfl, HB1.out⟩
end Go.Proofs.YtjkmbicedbdifaaGreat

namespace Go.Proofs.YtjkmbicedbdifaaGreat
open Go.RowKit
set_option linter.unusedVariables false

/-- The place of the first entry of a path. -/
def atE (es : List En) (p : Bs) : Option Nat := es.findIdx? fun e => decide (e.path = p)

theorem str_toList (a : Bs) : (str a).toList = a := by rw [ByteArray.toList_eq, str_data]
theorem str_yes {a b : Bs} (h : a = b) : ((str a).toList == (str b).toList) = true := by rw [h]; simp
theorem str_no {a b : Bs} (h : a ≠ b) : ((str a).toList == (str b).toList) = false := by rw [str_toList, str_toList, beq_eq_false_iff_ne]; exact h
theorem str_beq (a b : Bs) : ((str a).toList == (str b).toList) = decide (a = b) := by
  by_cases h : a = b
  · rw [str_yes h, decide_eq_true h]
  · rw [str_no h, decide_eq_false h]
def placeI (o : Option Nat) : Int := match o with | some i => (i : Int) | none => -1
theorem drop_at {α : Type} {es : List α} {k : Nat} {e : α} (h : es[k]? = some e) : es.drop k = e :: es.drop (k + 1) := by
  obtain ⟨hk, he⟩ := List.getElem?_eq_some_iff.1 h
  rw [List.drop_eq_getElem_cons hk, he]
theorem atE_hit {es : List En} {p : Bs} {k : Nat} {e : En} (h : es[k]? = some e) (hi : atE es p = (atE (es.drop k) p).map (· + k)) (hp : e.path = p) : atE es p = some k := by
  rw [hi, drop_at h]; simp [atE, List.findIdx?_cons, hp]
theorem atE_miss {es : List En} {p : Bs} {k : Nat} {e : En} (h : es[k]? = some e) (hi : atE es p = (atE (es.drop k) p).map (· + k)) (hp : e.path ≠ p) : atE es p = (atE (es.drop (k + 1)) p).map (· + (k + 1)) := by
  rw [hi, drop_at h]
  simp only [atE, List.findIdx?_cons, hp, decide_false, Bool.false_eq_true, if_false, Option.map_map]
  congr 1
  funext x
  simp only [Function.comp]
  omega
theorem atE_end {es : List En} {p : Bs} {k : Nat} (hk : es.length ≤ k) (hi : atE es p = (atE (es.drop k) p).map (· + k)) : atE es p = none := by
  rw [hi, List.drop_eq_nil_of_le hk]; rfl
theorem atE_find (es : List En) (p : Bs) : findE es p = (atE es p).bind (fun i => es[i]?) := by
  unfold findE atE
  induction es with
  | nil => rfl
  | cons e r ih =>
    by_cases h : e.path = p
    · simp [List.findIdx?_cons, h]
    · simp only [List.findIdx?_cons, List.find?_cons, h, decide_false, Bool.false_eq_true, if_false, ih]
      cases List.findIdx? (fun e => decide (e.path = p)) r <;> simp
theorem atE_lt {es : List En} {p : Bs} {k : Nat} (h : atE es p = some k) : k < es.length := by
  unfold atE at h
  exact (List.findIdx?_eq_some_iff_getElem.1 h).1

set_option maxRecDepth 100000 in
set_option maxHeartbeats 800000 in
theorem l4At_any (a : Option Addr) (c n : Nat) (es : List En) (p : Bs) (w : World) (h : RdE w a es) (hn : n = es.length) (hl : es.length ≤ 1048576) :
    Calls Tryz.prog 72 #[.slice a n c, .string (str p)] w fun r w' => r = .returned (.int .i64 (placeI (atE es p))) ∧ w' = w := by
  subst hn
  have HR := hide h
  clear h
  go_enter Tryz.func72, Tryz.ntmps72
  go_wp2_with fail
  go_loop [5] (fun i => ∃ k : Nat, k ≤ es.length ∧ i = .int .i64 k ∧ Hid (atE es p = (atE (es.drop k) p).map (· + k))) (fun i => es.length - (intOf i).toNat)
  case atStart => exact ⟨0, Nat.zero_le _, rfl, hide (by simp)⟩
  case round =>
    obtain ⟨k, hk, rfl, HA⟩ := hrel
    by_cases hlt : k < es.length
    · obtain ⟨b, off, e, x, cc, rfl, hb, he, c0, c1, c2, c3, hr⟩ := HR.out.at hlt
      have HX := hide he
      clear he hr
      by_cases hp : e.path = p
      · have HE := hide (atE_hit HX.out HA.out hp)
        have hs := str_yes hp
        clear hp
        go_wp2_with fail
        go_ret
        exact ⟨ret_int (by rw [HE.out]; rfl), rfl⟩
      · have HE := hide (atE_miss HX.out HA.out hp)
        have hs := str_no hp
        clear hp
        go_wp2_with fail
        go_round
        case rel => exact ⟨k + 1, by omega, by go_num, HE⟩
        case measure => simp [intOf]; omega
    · have HE := hide (atE_end (by omega) HA.out)
      go_wp2_with fail
      go_ret
      exact ⟨ret_int (by rw [HE.out]; rfl), rfl⟩
theorem l4IsDir_any (b o : Nat) (k : Int) (w : World) (h : w.cell? ⟨b, o + 1, none⟩ = some (.int .i64 k)) :
    Calls Tryz.prog 93 #[.pointer (some ⟨b, o, none⟩)] w fun r w' => r = .returned (.bool (dirK k)) ∧ w' = w := by
  by_cases h2 : k = 2
  · have hk : dirK k = true := by simp [dirK, h2]
    rw [hk]
    subst h2
    go_enter Tryz.func93, Tryz.ntmps93
    go_wp2_with fail
    go_ret
    exact ⟨rfl, rfl⟩
  · have hk : dirK k = (k == 4) := by simp [dirK, h2]; rfl
    have hf : (k == 2) = false := by simp; exact h2
    rw [hk]
    go_enter Tryz.func93, Tryz.ntmps93
    go_wp2_with fail
    go_ret
    exact ⟨rfl, rfl⟩
theorem homeE_top {es : List En} {p : Bs} (h : parentP p = []) : homeE es p = true := by simp [homeE, h]
theorem homeE_none {es : List En} {p : Bs} (h : parentP p ≠ []) (ha : atE es (parentP p) = none) : homeE es p = false := by simp [homeE, h, atE_find, ha]
theorem homeE_some {es : List En} {p : Bs} {k : Nat} {e : En} (h : parentP p ≠ []) (ha : atE es (parentP p) = some k) (he : es[k]? = some e) : homeE es p = dirK e.kind := by simp [homeE, h, atE_find, ha, he]
theorem str_empty (a : Bs) : (str a).toList.isEmpty = decide (a = []) := by rw [str_toList]; cases a <;> rfl

set_option maxRecDepth 100000 in
set_option maxHeartbeats 800000 in
theorem l4Home_any (a : Option Addr) (c n : Nat) (es : List En) (p : Bs) (w : World) (h : RdE w a es) (hn : n = es.length) (hl : es.length ≤ 1048576) (h1 : 1 ≤ p.length) (hp : p.length ≤ 1048576) :
    Calls Tryz.prog 110 #[.slice a n c, .string (str p)] w fun r w' => r = .returned (.bool (homeE es p)) ∧ Below w.heap.size w w' := by
  subst hn
  have HR := hide h
  clear h
  have HP := hide (show (aboveN (cutB (str p).data.toList.tail)).getLastD [] = parentP p from by rw [str_data]; rfl)
  by_cases hq : parentP p = []
  · have HE := hide (homeE_top (es := es) hq)
    have hs := (str_empty (parentP p)).trans (decide_eq_true hq)
    clear hq
    go_enter Tryz.func110, Tryz.ntmps110
    go_wp2_with fail
    refine (l3Parent_any _ _ (by rw [str_size]; omega) (by rw [str_size]; omega)).mono ?_
    rintro r w1 ⟨rfl, hb⟩
    rw [HP.out]
    have HB := hide hb
    clear hb
    go_wp2_with fail
    go_ret
    exact ⟨by rw [HE.out]; rfl, HB.out⟩
  · have hs := (str_empty (parentP p)).trans (decide_eq_false hq)
    cases ha : atE es (parentP p) with
    | none =>
      have HE := hide (homeE_none hq ha)
      have HA := hide ha
      clear hq ha
      go_enter Tryz.func110, Tryz.ntmps110
      go_wp2_with fail
      refine (l3Parent_any _ _ (by rw [str_size]; omega) (by rw [str_size]; omega)).mono ?_
      rintro r w1 ⟨rfl, hb⟩
      rw [HP.out]
      have HB := hide hb
      have HR1 := hide (HR.out.below hb)
      clear hb
      go_wp2_with fail
      refine (l4At_any _ _ _ es _ _ HR1.out rfl hl).mono ?_
      rintro r w2 ⟨rfl, rfl⟩
      rw [HA.out]
      simp only [placeI]
      go_wp2_with fail
      go_ret
      exact ⟨by rw [HE.out]; rfl, HB.out⟩
    | some k =>
      have hk := atE_lt ha
      obtain ⟨e, he⟩ : ∃ e, es[k]? = some e := ⟨es[k], List.getElem?_eq_getElem hk⟩
      have HE := hide (homeE_some hq ha he)
      have HA := hide ha
      have HX := hide he
      clear hq ha he
      go_enter Tryz.func110, Tryz.ntmps110
      go_wp2_with fail
      refine (l3Parent_any _ _ (by rw [str_size]; omega) (by rw [str_size]; omega)).mono ?_
      rintro r w1 ⟨rfl, hb⟩
      rw [HP.out]
      have HB := hide hb
      have HR1 := hide (HR.out.below hb)
      clear hb
      go_wp2_with fail
      refine (l4At_any _ _ _ es _ _ HR1.out rfl hl).mono ?_
      rintro r w2 ⟨rfl, rfl⟩
      rw [HA.out]
      simp only [placeI]
      obtain ⟨b, off, e', x, cc, rfl, hbl, he', c0, c1, c2, c3, hr⟩ := HR1.out.at hk
      have : e' = e := Option.some.inj (he'.symm.trans HX.out)
      subst this
      clear he' hr
      go_wp2_with fail
      refine (l4IsDir_any _ _ _ _ c1).mono ?_
      rintro r w3 ⟨rfl, rfl⟩
      go_wp2_with fail
      go_ret
      exact ⟨by rw [HE.out]; rfl, HB.out⟩

theorem entFault_zero {e : En} (h : entFault e = 0) : faultP e.path = 0 := by
  by_cases hf : faultP e.path = 0
  · exact hf
  · rw [entFault_path hf] at h; exact absurd h hf
theorem faultP_nil : faultP [] ≠ 0 := by decide
theorem path_pos {p : Bs} (h : faultP p = 0) : 1 ≤ p.length := by
  cases p with
  | nil => exact absurd h faultP_nil
  | cons c r => simp
theorem layFault_many {es : List En} (h : 12 < es.length) : layFault es = 2 := by simp [layFault, h]
theorem layFault_few {es : List En} (h : ¬ 12 < es.length) : layFault es = layFrom es (prevE es 0) (es.drop 0) := by simp [layFault, h, prevE]
theorem layFrom_bad {es : List En} {k : Nat} {e : En} {F : Int} (hF : F = layFrom es (prevE es k) (es.drop k)) (he : es[k]? = some e) (h : entFault e ≠ 0) : F = entFault e := by
  have hb : entBad es (prevE es k) e = entFault e := by simp [entBad, h]
  rw [hF, layFrom_step he, hb, if_neg h]
theorem layFrom_low {es : List En} {k : Nat} {e : En} {F : Int} (hF : F = layFrom es (prevE es k) (es.drop k)) (he : es[k]? = some e) (h : entFault e = 0) (hl : lowE (prevE es k) e = true) : F = 1 := by
  have hb : entBad es (prevE es k) e = 1 := by simp [entBad, h, hl]
  rw [hF, layFrom_step he, hb]; rfl
theorem layFrom_home {es : List En} {k : Nat} {e : En} {F : Int} (hF : F = layFrom es (prevE es k) (es.drop k)) (he : es[k]? = some e) (h : entFault e = 0) (hl : lowE (prevE es k) e = false) (hh : homeE es e.path = false) : F = 9 := by
  have hb : entBad es (prevE es k) e = 9 := by simp [entBad, h, hl, hh]
  rw [hF, layFrom_step he, hb]; rfl
theorem layFrom_next {es : List En} {k : Nat} {e : En} {F : Int} (hF : F = layFrom es (prevE es k) (es.drop k)) (he : es[k]? = some e) (h : entFault e = 0) (hl : lowE (prevE es k) e = false) (hh : homeE es e.path = true) : F = layFrom es (prevE es (k + 1)) (es.drop (k + 1)) := by
  have hb : entBad es (prevE es k) e = 0 := by simp [entBad, h, hl, hh]
  rw [hF, layFrom_step he, hb]; rfl
theorem layFrom_end {es : List En} {k : Nat} {F : Int} (hF : F = layFrom es (prevE es k) (es.drop k)) (hk : es.length ≤ k) : F = 0 := by
  rw [hF, List.drop_eq_nil_of_le hk]; cases prevE es k <;> rfl

set_option maxRecDepth 100000 in
set_option maxHeartbeats 1600000 in
theorem l4Fault_any (a : Option Addr) (c n : Nat) (es : List En) (w : World) (h : RdE w a es) (hn : n = es.length) (hl : es.length ≤ 1048576) (hs : SmallE es) :
    Calls Tryz.prog 70 #[.slice a n c] w fun r w' => r = .returned (.int .i64 (layFault es)) ∧ Below w.heap.size w w' := by
  subst hn
  by_cases hm : 12 < es.length
  · have HE := hide (layFault_many hm)
    have hm2 : (12 : Int) < (es.length : Int) := by omega
    go_enter Tryz.func70, Tryz.ntmps70
    go_wp2_with fail
    go_ret
    exact ⟨ret_int HE.out.symm, Below.refl _ _⟩
  · have HE := hide (layFault_few hm)
    have hm2 : ¬ (12 : Int) < (es.length : Int) := by omega
    generalize layFault es = F at HE ⊢
    have HR := hide h
    have HS := hide hs
    clear h hs
    go_enter Tryz.func70, Tryz.ntmps70
    go_wp2_with fail
    go_loopw [3] (fun i wr => ∃ k : Nat, k ≤ es.length ∧ i = .int .i64 k ∧ Hid (F = layFrom es (prevE es k) (es.drop k)) ∧ Hid (Below w.heap.size w wr)) (fun i _ => es.length - (intOf i).toNat)
    case atStart => exact ⟨0, Nat.zero_le _, rfl, HE, hide (Below.refl _ _)⟩
    case round =>
      obtain ⟨k, hk, rfl, HF, HW⟩ := hrel
      have HR1 := hide (HR.out.below HW.out)
      by_cases hlt : k < es.length
      · obtain ⟨b, off, e, x, cc, rfl, hb, he, c0, c1, c2, c3, hr⟩ := HR1.out.at hlt
        have HX := hide he
        have HRc := hide hr
        have hsm := HS.out e (List.mem_of_getElem? he)
        clear he hr
        by_cases hz : entFault e = 0
        · have hpos := path_pos (entFault_zero hz)
          have HZ := hide hz
          clear hz
          go_wp2_with fail
          refine (specEntryFault_any e _ _ _ _ HRc.out rfl hsm.1 hsm.2).mono ?_
          rintro r w1 ⟨rfl, hb1⟩
          rw [HZ.out]
          have HW1 := hide (below_next HW.out hb1)
          have HR2 := hide (HR1.out.below hb1)
          clear hb1 c0 c1 c2 c3 HW HRc
          obtain ⟨b', off', e', x', cc', hbb, hb', he', c0, c1, c2, c3, hr'⟩ := HR2.out.at hlt
          simp only [Option.some.injEq, Addr.mk.injEq, and_true] at hbb
          obtain ⟨rfl, rfl⟩ := hbb
          have : e' = e := Option.some.inj (he'.symm.trans HX.out)
          subst this
          clear he' hr' c1 c2 c3 HR1
          cases k with
          | zero =>
            have HL := hide (show lowE (prevE es 0) e' = false from rfl)
            simp only [Nat.zero_mul, Nat.add_zero] at c0
            go_wp2_with fail
            go_quiet (fail)
            go_wp2_with fail
            have HW2 := hide (below_drewN HW1.out nq)
            have HR3 := hide (HR2.out.below (below_drewN (Below.refl w1.heap.size w1) nq))
            clear HW1 HR2
            have hw3 : ∀ o, (w1.drewN nq).cell? ⟨b, o, none⟩ = w1.cell? ⟨b, o, none⟩ := fun _ => rfl
            generalize w1.drewN nq = W at *
            have HH := hide (l4Home_any _ c es.length es e'.path W HR3.out rfl (by omega) hpos hsm.1)
            cases hh : homeE es e'.path
            · have HO := hide (layFrom_home HF.out HX.out HZ.out HL.out hh)
              refine HH.out.mono ?_
              rintro r w4 ⟨rfl, hb4⟩
              rw [hh]
              clear hh
              have HW3 := hide (below_next HW2.out hb4)
              clear hb4
              go_wp2_with fail
              go_ret
              exact ⟨ret_int HO.out.symm, HW3.out⟩
            · have HO := hide (layFrom_next HF.out HX.out HZ.out HL.out hh)
              refine HH.out.mono ?_
              rintro r w4 ⟨rfl, hb4⟩
              rw [hh]
              clear hh
              have HW3 := hide (below_next HW2.out hb4)
              clear hb4
              go_wp2_with fail
              go_roundw
              case rel => exact ⟨1, by omega, by go_num, HO, HW3⟩
              case measure => simp [intOf]; omega
          | succ j =>
            have hg : (0 : Int) < ((j + 1 : Nat) : Int) := by omega
            obtain ⟨b2, off2, e2, x2, cc2, hbb, hb2, he2, d0, d1, d2, d3, hr2⟩ := HR2.out.at (show j < es.length by omega)
            simp only [Option.some.injEq, Addr.mk.injEq, and_true] at hbb
            obtain ⟨rfl, rfl⟩ := hbb
            have HL := hide (show lowE (prevE es (j + 1)) e' = (Op.bytesLess e'.path e2.path || (e'.path == e2.path)) from by simp [prevE, lowE, he2])
            clear he2 d1 d2 d3 hr2
            cases hlow : (Op.bytesLess (str e'.path).toList (str e2.path).toList || ((str e'.path).toList == (str e2.path).toList))
            · have HL2 := hide (show lowE (prevE es (j + 1)) e' = false from by rw [HL.out]; rw [str_toList, str_toList] at hlow; exact hlow)
              go_wp2_with fail
              go_quiet (fail)
              go_wp2_with fail
              have HW2 := hide (below_drewN HW1.out nq)
              have HR3 := hide (HR2.out.below (below_drewN (Below.refl w1.heap.size w1) nq))
              clear HW1 HR2
              have hw3 : ∀ o, (w1.drewN nq).cell? ⟨b, o, none⟩ = w1.cell? ⟨b, o, none⟩ := fun _ => rfl
              generalize w1.drewN nq = W at *
              have HH := hide (l4Home_any _ c es.length es e'.path W HR3.out rfl (by omega) hpos hsm.1)
              cases hh : homeE es e'.path
              · have HO := hide (layFrom_home HF.out HX.out HZ.out HL2.out hh)
                refine HH.out.mono ?_
                rintro r w4 ⟨rfl, hb4⟩
                rw [hh]
                clear hh
                have HW3 := hide (below_next HW2.out hb4)
                clear hb4
                go_wp2_with fail
                go_ret
                exact ⟨ret_int HO.out.symm, HW3.out⟩
              · have HO := hide (layFrom_next HF.out HX.out HZ.out HL2.out hh)
                refine HH.out.mono ?_
                rintro r w4 ⟨rfl, hb4⟩
                rw [hh]
                clear hh
                have HW3 := hide (below_next HW2.out hb4)
                clear hb4
                go_wp2_with fail
                go_roundw
                case rel => exact ⟨j + 1 + 1, by omega, by go_num, HO, HW3⟩
                case measure => simp [intOf]; omega
            · have HL2 := hide (show lowE (prevE es (j + 1)) e' = true from by rw [HL.out]; rw [str_toList, str_toList] at hlow; exact hlow)
              have HO := hide (layFrom_low HF.out HX.out HZ.out HL2.out)
              go_wp2_with fail
              go_quiet (fail)
              go_wp2_with fail
              go_ret
              exact ⟨ret_int HO.out.symm, below_drewN HW1.out _⟩
        · have HZ := hide (layFrom_bad HF.out HX.out hz)
          have hz2 : (entFault e != 0) = true := by simp; exact hz
          clear hz
          go_wp2_with fail
          refine (specEntryFault_any e _ _ _ _ HRc.out rfl hsm.1 hsm.2).mono ?_
          rintro r w1 ⟨rfl, hb1⟩
          have HW1 := hide (below_next HW.out hb1)
          clear hb1
          go_wp2_with fail
          go_ret
          exact ⟨ret_int HZ.out.symm, HW1.out⟩
      · have HZ := hide (layFrom_end HF.out (by omega))
        go_wp2_with fail
        go_ret
        exact ⟨ret_int HZ.out.symm, HW.out⟩

/-- What a layer and a path that are asked for answer. -/
def askE (es : List En) (p : Bs) : Int := if layFault es = 0 then faultP p else layFault es

end Go.Proofs.YtjkmbicedbdifaaGreat

namespace Go.Proofs.YtjkmbicedbdifaaGreat
open Go.RowKit
set_option linter.unusedVariables false

theorem Tryz.infoU8 : (Tryz.prog.info? 5).map (fun i => (i.zero, i.size, i.bytes)) = some (some (.int .u8 0), 1, 1) := by kernel_rfl


/-- One store of a walk that writes a row cell by cell. -/
theorem own_step {w : World} {b off j n : Nat} {k : IntKind} {f g : Nat → Int} {v : Int} (h : ∀ t, t < n → w.cell? ⟨b, off + t, none⟩ = some (.int k (if t < j then f t else g t)) ∧ w.frozen? ⟨b, off + t, none⟩ = false) (hj : j < n) (hv : v = f j) :
    ∀ t, t < n → (w.setCell ⟨b, off + j, none⟩ (.int k v)).cell? ⟨b, off + t, none⟩ = some (.int k (if t < j + 1 then f t else g t)) ∧ (w.setCell ⟨b, off + j, none⟩ (.int k v)).frozen? ⟨b, off + t, none⟩ = false := by
  intro t ht
  obtain ⟨h1, h2⟩ := h t ht
  refine ⟨?_, by rw [World.frozen?_setCell]; exact h2⟩
  by_cases e : t = j
  · subst e
    rw [cell_set_same (h t hj).1, if_pos (by omega), hv]
  · rw [cell_set_other (fun c => e (Nat.add_left_cancel (show off + j = off + t from congrArg Addr.off c)).symm), h1]
    by_cases e2 : t < j
    · rw [if_pos e2, if_pos (by omega)]
    · rw [if_neg e2, if_neg (by omega)]

end Go.Proofs.YtjkmbicedbdifaaGreat

namespace Go.Proofs.YtjkmbicedbdifaaGreat
open Go.RowKit
set_option linter.unusedVariables false

theorem reads_news {w : World} {b off : Nat} {zs : List Int} {k : IntKind} (hc : ∀ i, i < zs.length → w.cell? ⟨b, off + i, none⟩ = some (.int k (zs.getD i 0))) :
    ∀ j u, (zs.map (Value.int k))[j]? = some u → w.cell? ((⟨b, off, none⟩ : Addr).add j) = some u := by
  intro j u hj
  have hadd : (⟨b, off, none⟩ : Addr).add j = ⟨b, off + j, none⟩ := by unfold Addr.add; split <;> simp_all
  have hjl : j < zs.length := by
    rcases Nat.lt_or_ge j zs.length with h | h
    · exact h
    · rw [List.getElem?_eq_none (by simpa using h)] at hj; simp at hj
  rw [hadd, hc j hjl]
  simp [hjl] at hj
  simp [List.getD_eq_getElem?_getD, hjl, hj]

theorem ints_one (k : IntKind) (zs : List Int) : ∀ u ∈ zs.map (Value.int k), u.oneCell' = true := by
  intro u hu
  obtain ⟨z, _, rfl⟩ := List.mem_map.1 hu
  rfl

theorem own_of_ownsRow {w : World} {base : Nat} {e : TypeId} {k : IntKind} {v : Value} {n : Nat} {zs : List Int} (h : w.ownsRow base e 1 v n (zs.map (Value.int k))) (hn : n = zs.length) (hz : 0 < n) :
    ∃ g cap, v = .slice (some ⟨g, 0, none⟩) n cap ∧ base ≤ g ∧ g < w.heap.size ∧ Own k w (some ⟨g, 0, none⟩) zs := by
  obtain ⟨g, cap, hv, hg, hgl, hc, hf⟩ := ownsRow_ints h hn hz
  exact ⟨g, cap, hv, hg, hgl, fun _ => ⟨g, 0, rfl, hgl, fun i hi => ⟨by rw [Nat.zero_add]; exact hc i (by omega), hf _⟩⟩⟩

/-- append(T(nil or empty), x...): x not empty: a new row that holds x. -/
theorem wpList_append_fresh {P : Program} {wr : World} {ops : Array Oper} {rest : List Oper} {o : Oper} {a : Act} {Q : Exit → Act → World → Prop} (hgd : o.guard = none) (s x : Operand) (t : TypeId)
    (ho : o.op = .call { callee := .builtin .append, args := #[s, x], argTypes := #[t, t] })
    (e : TypeId) (i : TypeInfo) (k : IntKind) (bytes : Nat) (ht : P.underlying t = some (.slice e)) (hi : P.info? e = some i) (hz : i.zero = some (.int k 0))
    (hsize : i.size = 1) (hby : i.bytes = bytes) (hs : a.eval s = .slice (some ⟨wr.heap.size, 0, none⟩) 0 0)
    (b off n cap : Nat) (zs : List Int) (hx : a.eval x = .slice (some ⟨b, off, none⟩) n cap) (hn : n = zs.length) (hb : b < wr.heap.size) (hc : ∀ i, i < zs.length → wr.cell? ⟨b, off + i, none⟩ = some (.int k (zs.getD i 0)))
    (h0 : 0 < zs.length) (h63 : zs.length ≤ maxLen) (hbytes : zs.length * bytes ≤ 140737488355328)
    (h : ∀ g c w', w'.ownsRow wr.heap.size e 1 (.slice (some ⟨g, 0, none⟩) n c) n (zs.map (Value.int k)) → wr.heap.size ≤ g → g < w'.heap.size → Below wr.heap.size wr w' → wpList P ops Q rest (a.put o.dst (.slice (some ⟨g, 0, none⟩) n c)) w') :
    wpList P ops Q (o :: rest) a (wr.alloc (.cells #[] e)) := by
  have hown : (wr.alloc (.cells #[] e)).ownsRow wr.heap.size e 1 (.slice (some ⟨wr.heap.size, 0, none⟩) 0 0) 0 [] := World.ownsRow_made wr #[] 0 (Nat.le_refl _) (Nat.zero_le _) rfl
  have hn2 : ∀ j u, (zs.map (Value.int k))[j]? = some u → (wr.alloc (.cells #[] e)).cell? ((⟨b, off, none⟩ : Addr).add j) = some u := fun j u hj => (World.grownBy_alloc wr (.cells #[] e) none).cell (reads_news hc j u hj) (by simp)
  refine wpList_append_own _ hgd s x t ho wr.heap.size e i (.int k 0) 1 bytes ht hi hz hsize hby rfl (by decide) _ _ _ hs hown ⟨b, off, none⟩ n cap (zs.map (Value.int k)) hx (by simp [hn]) hn2 (ints_one _ _) (by omega) (by rw [Nat.zero_add, hn]; exact hbytes) (by simp) ?_
  intro v' w' hown' hgrow _
  rw [Nat.zero_add, List.nil_append] at hown'
  obtain ⟨g, c, rfl, hg, hgl, _⟩ := own_of_ownsRow hown' hn (by omega)
  refine h g c w' hown' hg hgl ?_
  exact ((Below.refl _ _).alloc (Nat.le_refl _) _).grown hgrow (by simp) (fun k hk => by simp [Value.ownBlock] at hk; omega)


/-- Piece i of the bytes zs, of 8 bytes or what is left. -/
def piece (zs : List Int) (i : Nat) : List Int := (zs.drop (8 * i)).take 8
def cut (zs : List Int) : List (List Int) := (List.range ((zs.length + 7) / 8)).map (piece zs)
theorem cut_length (zs : List Int) : (cut zs).length = (zs.length + 7) / 8 := by simp [cut]
theorem cut_getD (zs : List Int) (i : Nat) (h : i < (cut zs).length) : (cut zs).getD i [] = piece zs i := by
  rw [cut_length] at h; simp [cut, List.getD_eq_getElem?_getD, h]
theorem piece_length (zs : List Int) (i : Nat) : (piece zs i).length = min 8 (zs.length - 8 * i) := by simp [piece]
theorem piece_getD (zs : List Int) (i t : Nat) (h : t < (piece zs i).length) : (piece zs i).getD t 0 = zs.getD (8 * i + t) 0 := by
  rw [piece_length] at h
  have h8 : t < 8 := by omega
  simp [piece, List.getD_eq_getElem?_getD, h8, List.getElem?_drop]

/-- v is a row of j byte slices, slice i holding P i, each in a block of its own from B on. -/
def Grow2 (B : Nat) (w : World) (v : Value) (P : Nat → List Int) (j : Nat) : Prop :=
  ∃ A C : Nat → Nat, w.ownsRow B 22 1 v j ((List.range j).map fun i => .slice (some ⟨A i, 0, none⟩) (P i).length (C i)) ∧
    (∀ i, i < j → w.ownsRow B 5 1 (.slice (some ⟨A i, 0, none⟩) (P i).length (C i)) (P i).length ((P i).map (Value.int .u8))) ∧
    ∀ i i', i < j → i' < j → A i = A i' → i = i'

theorem Grow2.below {B : Nat} {w w' : World} {v : Value} {P : Nat → List Int} {j : Nat} (h : Grow2 B w v P j) (hk : Below w.heap.size w w') : Grow2 B w' v P j := by
  obtain ⟨A, C, h1, h2, h3⟩ := h
  exact ⟨A, C, ownsRow_below h1 hk, fun i hi => ownsRow_below (h2 i hi) hk, h3⟩

theorem Grow2.push {B : Nat} {w w1 w2 : World} {v v' : Value} {P : Nat → List Int} {j g c : Nat} {A C : Nat → Nat}
    (h1 : w.ownsRow B 22 1 v j ((List.range j).map fun i => .slice (some ⟨A i, 0, none⟩) (P i).length (C i)))
    (h2 : ∀ i, i < j → w.ownsRow B 5 1 (.slice (some ⟨A i, 0, none⟩) (P i).length (C i)) (P i).length ((P i).map (Value.int .u8)))
    (h3 : ∀ i i', i < j → i' < j → A i = A i' → i = i') (hB : B ≤ w.heap.size) (hbel : Below w.heap.size w w1)
    {n1 n2 : Nat} (hown : w1.ownsRow w.heap.size 5 1 (.slice (some ⟨g, 0, none⟩) n1 c) n1 ((P j).map (Value.int .u8))) (hg : w.heap.size ≤ g)
    (hv' : w2.ownsRow B 22 1 v' (j + 1) ((List.range j).map (fun i => Value.slice (some ⟨A i, 0, none⟩) (P i).length (C i)) ++ [.slice (some ⟨g, 0, none⟩) n2 c]))
    (hk : Kept (fun b => v.ownBlock = some b) w1 w2) (hn1 : n1 = (P j).length) (hn2 : n2 = (P j).length) : Grow2 B w2 v' P (j + 1) := by
  subst hn1 hn2
  have hA : ∀ i, i < j → A i < w.heap.size := fun i hi => ((h2 i hi).lt (A i) rfl).2
  have k1 := ownsRow_below h1 hbel
  refine ⟨fun i => if i = j then g else A i, fun i => if i = j then c else C i, ?_, ?_, ?_⟩
  · rw [List.range_succ, List.map_append]
    have e : (List.range j).map (fun i => Value.slice (some ⟨if i = j then g else A i, 0, none⟩) (P i).length (if i = j then c else C i)) = (List.range j).map (fun i => Value.slice (some ⟨A i, 0, none⟩) (P i).length (C i)) := by
      apply List.map_congr_left
      intro i hi
      have : i ≠ j := by have := List.mem_range.1 hi; omega
      simp [this]
    rw [e]
    simpa using hv'
  · intro i hi
    by_cases e : i = j
    · subst e
      simp only [if_true]
      exact ownsRow_kept (ownsRow_mono hown hB) hk (fun b hb hS => ownsRow_apart k1 hown (by decide) hS hb)
    · simp only [if_neg e]
      have k2 := ownsRow_below (h2 i (by omega)) hbel
      exact ownsRow_kept k2 hk (fun b hb hS => ownsRow_apart k1 k2 (by decide) hS hb)
  · intro i i' hi hi' he
    by_cases e : i = j
    · by_cases e' : i' = j
      · omega
      · simp only [if_pos e, if_neg e'] at he
        have := hA i' (by omega)
        omega
    · by_cases e' : i' = j
      · simp only [if_neg e, if_pos e'] at he
        have := hA i (by omega)
        omega
      · simp only [if_neg e, if_neg e'] at he
        exact h3 i i' (by omega) (by omega) he

theorem Tryz.infoBs : (Tryz.prog.info? 22).map (fun i => (i.zero, i.size, i.bytes)) = some (some (.slice none 0 0), 1, 24) := by kernel_rfl

set_option maxRecDepth 100000 in
set_option maxHeartbeats 800000 in
theorem l1Cut_any (a : Option Addr) (cap : Nat) (zs : List Int) (w : World) (h : Reads .u8 w a zs) (hcap : zs.length ≤ cap) (hl : zs.length ≤ 1048576) :
    Calls Tryz.prog 169 #[.slice a zs.length cap] w fun e w' => ∃ v, e = .returned v ∧ Grow2 w.heap.size w' v (piece zs) (cut zs).length ∧ Below w.heap.size w w' := by
  obtain ⟨i0, hi, hz0, hz1, hz2⟩ := info_parts Tryz.infoU8
  obtain ⟨i1, ki, kz0, kz1, kz2⟩ := info_parts Tryz.infoBs
  go_enter Tryz.func169, Tryz.ntmps169
  go_wp2
  go_loopw [3, 4, 5] (fun v i _ wr => ∃ j : Nat, 8 * j < zs.length + 8 ∧ i = .int .i64 (8 * (j : Int)) ∧ Grow2 w.heap.size wr v (piece zs) j ∧ Below w.heap.size w wr) (fun _ i _ _ => zs.length + 8 - (intOf i).toNat)
  case atStart => exact ⟨0, by omega, rfl, ⟨fun _ => 0, fun _ => 0, World.ownsRow_made w #[] 0 (Nat.le_refl _) (Nat.zero_le _) rfl, fun i hi => absurd hi (by omega), fun i i' hi => absurd hi (by omega)⟩, (Below.refl _ _).alloc (Nat.le_refl _) _⟩
  case round =>
    obtain ⟨j, hj, rfl, hgrow, hbel⟩ := hrel
    have hsz := hbel.size
    by_cases hlt : 8 * j < zs.length
    · obtain ⟨b, off, rfl, hb, hc⟩ := h (by intro e; simp [e] at hlt)
      obtain ⟨A, C, h1, h2, h3⟩ := hgrow
      have hlt' : 8 * (j : Int) < (zs.length : Int) := by omega
      have H1 := hide h1
      have H2 := hide h2
      have H3 := hide h3
      have HB := hide hbel
      have HC := hide hc
      clear h1 h2 h3 hbel hc h
      have hb' : b < wr.heap.size := Nat.lt_of_lt_of_le hb hsz
      have hcp : ∀ t, t < (piece zs j).length → wr.cell? ⟨b, off + 8 * j + t, none⟩ = some (.int .u8 ((piece zs j).getD t 0)) := fun t ht => by
        rw [piece_getD zs j t ht, Nat.add_assoc]
        exact (HB.out.cell (p := ⟨b, off + (8 * j + t), none⟩) hb).trans (HC.out (8 * j + t) (by rw [piece_length] at ht; omega))
      have HCP := hide hcp
      have hp0 : 0 < (piece zs j).length := by rw [piece_length]; omega
      have hp1 : (piece zs j).length ≤ maxLen := by rw [piece_length]; unfold maxLen; omega
      have hp2 : (piece zs j).length * 1 ≤ 140737488355328 := by rw [piece_length]; omega
      have hm1 : j + 1 ≤ maxLen := by unfold maxLen; omega
      have hm2 : (j + 1) * 24 ≤ 140737488355328 := by omega
      clear hcp
      by_cases hm : (zs.length : Int) < 8 * (j : Int) + 8
      · have hpl : zs.length - 8 * j = (piece zs j).length := by rw [piece_length]; omega
        have HPL := hide hpl
        clear hpl
        go_wp2_with (first | (at_builtin; refine wpList_append_fresh rfl (.tmp 19) (.tmp 23) 22 rfl 5 i0 .u8 1 Tryz.underlying22 hi hz0 hz1 hz2 rfl b (off + 8 * j) (zs.length - 8 * j) (cap - 8 * j) (piece zs j) rfl HPL.out hb' HCP.out hp0 hp1 hp2 ?_; intro g c w1 hown1 hg1 hgl1 hbel1; have k1 := hide (ownsRow_below H1.out hbel1); have HO1 := hide hown1; have HB1 := hide hbel1; have hsz1 : w.heap.size ≤ w1.heap.size := Nat.le_trans hsz hbel1.size; clear hown1 hbel1) | (at_builtin; refine wpList_append_one rfl (.tmp 18) (.tmp 25) 181 rfl w.heap.size 22 i1 (.slice none 0 0) 1 24 Tryz.underlying181 ki kz0 kz1 kz2 rfl (by decide) _ _ _ rfl k1.out rfl rfl (by intro u hu; simp at hu; subst hu; rfl) hm1 hm2 hsz1 ?_; intro v' w2 hown2 hkept; have hG : Hid (Grow2 w.heap.size w2 v' (piece zs) (j + 1)) := Grow2.push H1.out H2.out H3.out hsz HB1.out HO1.out hg1 hown2 hkept HPL.out (by first | exact HPL.out | (have := HPL.out; omega)); have hB2 := hide (Kept.below_own (HB.out.trans (HB1.out.mono hsz)) hsz1 k1.out hkept); clear hown2 hkept k1) | go_in)
        go_roundw
        case rel => exact ⟨j + 1, by omega, by go_num, hG.out, hB2.out⟩
        case measure => simp [intOf]; omega
      · have hpl : 8 * j + 8 - 8 * j = (piece zs j).length := by rw [piece_length]; omega
        have HPL := hide hpl
        clear hpl
        go_wp2_with (first | (at_builtin; refine wpList_append_fresh rfl (.tmp 19) (.tmp 23) 22 rfl 5 i0 .u8 1 Tryz.underlying22 hi hz0 hz1 hz2 rfl b (off + 8 * j) (8 * j + 8 - 8 * j) (cap - 8 * j) (piece zs j) rfl HPL.out hb' HCP.out hp0 hp1 hp2 ?_; intro g c w1 hown1 hg1 hgl1 hbel1; have k1 := hide (ownsRow_below H1.out hbel1); have HO1 := hide hown1; have HB1 := hide hbel1; have hsz1 : w.heap.size ≤ w1.heap.size := Nat.le_trans hsz hbel1.size; clear hown1 hbel1) | (at_builtin; refine wpList_append_one rfl (.tmp 18) (.tmp 25) 181 rfl w.heap.size 22 i1 (.slice none 0 0) 1 24 Tryz.underlying181 ki kz0 kz1 kz2 rfl (by decide) _ _ _ rfl k1.out rfl rfl (by intro u hu; simp at hu; subst hu; rfl) hm1 hm2 hsz1 ?_; intro v' w2 hown2 hkept; have hG : Hid (Grow2 w.heap.size w2 v' (piece zs) (j + 1)) := Grow2.push H1.out H2.out H3.out hsz HB1.out HO1.out hg1 hown2 hkept HPL.out (by first | exact HPL.out | (have := HPL.out; omega)); have hB2 := hide (Kept.below_own (HB.out.trans (HB1.out.mono hsz)) hsz1 k1.out hkept); clear hown2 hkept k1) | go_in)
        go_roundw
        case rel => exact ⟨j + 1, by omega, by go_num, hG.out, hB2.out⟩
        case measure => simp [intOf]; omega
    · have hje : j = (cut zs).length := by rw [cut_length]; omega
      subst hje
      go_wp2
      go_ret
      exact ⟨_, rfl, hgrow, hbel⟩


theorem Grow2.mono {B B' : Nat} {w : World} {v : Value} {P : Nat → List Int} {j : Nat} (h : Grow2 B w v P j) (hB : B' ≤ B) : Grow2 B' w v P j := by
  obtain ⟨A, C, h1, h2, h3⟩ := h
  exact ⟨A, C, ownsRow_mono h1 hB, fun i hi => ownsRow_mono (h2 i hi) hB, h3⟩
theorem Grow2.kept {S : Nat → Prop} {B : Nat} {w w' : World} {v : Value} {P : Nat → List Int} {j : Nat} (h : Grow2 B w v P j) (hk : Kept S w w') (hS : ∀ b, B ≤ b → ¬ S b) : Grow2 B w' v P j := by
  obtain ⟨A, C, h1, h2, h3⟩ := h
  exact ⟨A, C, ownsRow_kept h1 hk (fun b hb => hS b (h1.lt b hb).1), fun i hi => ownsRow_kept (h2 i hi) hk (fun b hb => hS b ((h2 i hi).lt b hb).1), h3⟩





end Go.Proofs.YtjkmbicedbdifaaGreat

namespace Go.Proofs.YtjkmbicedbdifaaGreat
open Go.RowKit
set_option linter.unusedVariables false

/-- What is written into a list of n cells of kind i64, from k on. -/
def marks64 (k : Int) (n : Nat) : List Int := (List.range n).map fun (i : Nat) => k + i
theorem marks64_length (k : Int) (n : Nat) : (marks64 k n).length = n := by simp [marks64]
theorem marks64_getD (k : Int) (n i : Nat) (h : i < n) : (marks64 k n).getD i 0 = k + i := by simp [marks64, List.getD_eq_getElem?_getD, h]

theorem Tryz.infoI64 : (Tryz.prog.info? 2).map (fun i => (i.zero, i.size, i.bytes)) = some (some (.int .i64 0), 1, 8) := by kernel_rfl







end Go.Proofs.YtjkmbicedbdifaaGreat

namespace Go.Proofs.YtjkmbicedbdifaaGreat
open Go.RowKit Go.Maps
set_option linter.unusedVariables false

theorem Tryz.infoEn : (Tryz.prog.info? 40).map (fun i => (i.zero, i.size, i.bytes)) = some (some (.agg #[.string ⟨#[]⟩, .int .i64 0, .int .i64 0, .slice none 0 0]), 4, 56) := by kernel_rfl

/-- An entry in memory: what it is, and where its chunks lie. -/
structure Rw where
  e : En
  a : Option Addr
  c : Nat
def cellsR (r : Rw) : List Value := [.string (str r.e.path), .int .i64 r.e.kind, .int .i64 r.e.size, .slice r.a r.e.chunks.length r.c]
def rowR (rs : List Rw) : List Value := rs.flatMap cellsR
theorem rowR_append (a b : List Rw) : rowR (a ++ b) = rowR a ++ rowR b := by simp [rowR]
theorem rowR_length : ∀ rs : List Rw, (rowR rs).length = rs.length * 4
  | [] => rfl
  | r :: rs => by
    have := rowR_length rs
    simp only [rowR, List.flatMap_cons, List.length_append, List.length_cons] at this ⊢
    rw [this]; simp [cellsR]; omega
theorem rowR_get : ∀ (rs : List Rw) (i q : Nat) (r : Rw), rs[i]? = some r → q < 4 → (rowR rs)[i * 4 + q]? = (cellsR r)[q]?
  | [], i, q, r, h, _ => by simp at h
  | x :: rs, 0, q, r, h, hq => by
    simp only [List.getElem?_cons_zero, Option.some.injEq] at h
    subst h
    simp only [rowR, List.flatMap_cons, Nat.zero_mul, Nat.zero_add]
    rw [List.getElem?_append_left (by simp [cellsR]; omega)]
  | x :: rs, i + 1, q, r, h, hq => by
    have := rowR_get rs i q r (by simpa using h) hq
    rw [← this]
    simp only [rowR, List.flatMap_cons]
    rw [List.getElem?_append_right (by simp [cellsR]; omega)]
    congr 1
    simp [cellsR]; omega
theorem rowR_drop : ∀ (rs : List Rw) (k : Nat), (rowR rs).drop (k * 4) = rowR (rs.drop k)
  | rs, 0 => by simp
  | [], k + 1 => by simp [rowR]
  | x :: rs, k + 1 => by
    have := rowR_drop rs k
    rw [List.drop_succ_cons, ← this]
    simp only [rowR, List.flatMap_cons]
    rw [show (k + 1) * 4 = (cellsR x).length + k * 4 from by simp [cellsR]; omega, List.drop_length_add_append]
theorem rowR_take : ∀ (rs : List Rw) (k : Nat), (rowR rs).take (k * 4) = rowR (rs.take k)
  | rs, 0 => by simp [rowR]
  | [], k + 1 => by simp [rowR]
  | x :: rs, k + 1 => by
    have := rowR_take rs k
    rw [List.take_succ_cons]
    simp only [rowR, List.flatMap_cons] at this ⊢
    rw [show (k + 1) * 4 = (cellsR x).length + k * 4 from by simp [cellsR]; omega, List.take_length_add_append, this]
theorem rowR_one (rs : List Rw) : ∀ u ∈ rowR rs, u.oneCell' = true := by
  intro u hu
  simp only [rowR, List.mem_flatMap] at hu
  obtain ⟨r, _, hr⟩ := hu
  simp only [cellsR, List.mem_cons, List.not_mem_nil, or_false] at hr
  rcases hr with rfl | rfl | rfl | rfl <;> rfl

/-- v is a row of entries; their chunks are read where they lie. -/
def SE (B : Nat) (w : World) (v : Value) (es : List En) : Prop :=
  ∃ rs : List Rw, rs.map Rw.e = es ∧ w.ownsRow B 40 4 v es.length (rowR rs) ∧ ∀ r ∈ rs, Reads .i64 w r.a r.e.chunks
/-- v is a row of entries, each one's chunks in a block of their own; all blocks from B on and below T. -/
def GE (B T : Nat) (w : World) (v : Value) (es : List En) : Prop :=
  ∃ rs : List Rw, rs.map Rw.e = es ∧ w.ownsRow B 40 4 v es.length (rowR rs) ∧
    (∀ r ∈ rs, w.ownsRow B 2 1 (.slice r.a r.e.chunks.length r.c) r.e.chunks.length (r.e.chunks.map (Value.int .i64))) ∧
    rs.Pairwise (fun r r' => ∀ g, r.a.map Addr.block = some g → r'.a.map Addr.block ≠ some g) ∧
    (∀ r ∈ rs, ∀ g, r.a.map Addr.block = some g → g < T) ∧ ∀ b, v.ownBlock = some b → b < T

theorem ownInts_reads {w : World} {B : Nat} {e : TypeId} {k : IntKind} {a : Option Addr} {n c : Nat} {zs : List Int} (h : w.ownsRow B e 1 (.slice a n c) n (zs.map (Value.int k))) (hn : n = zs.length) : Reads k w a zs := by
  intro hz
  have h0 : 0 < n := by rw [hn]; exact List.length_pos_iff.2 hz
  obtain ⟨g, cap, hv, hg, hgl, hc, hf⟩ := ownsRow_ints h hn h0
  simp only [Value.slice.injEq, true_and] at hv
  exact ⟨g, 0, hv.1, hgl, fun i hi => by rw [Nat.zero_add]; exact hc i (by omega)⟩
theorem GE.se {B T : Nat} {w : World} {v : Value} {es : List En} (h : GE B T w v es) : SE B w v es := by
  obtain ⟨rs, e, h1, h2, _⟩ := h
  exact ⟨rs, e, h1, fun r hr => ownInts_reads (h2 r hr) rfl⟩
theorem SE.shape {B : Nat} {w : World} {v : Value} {es : List En} (h : SE B w v es) : ∃ a c, v = .slice a es.length c := by
  obtain ⟨rs, _, h1, _⟩ := h
  exact ownsRow_shape h1
theorem SE.rd {B : Nat} {w : World} {a : Option Addr} {n c : Nat} {es : List En} (h : SE B w (.slice a n c) es) : RdE w a es := by
  intro hz
  obtain ⟨rs, he, h1, h2⟩ := h
  have h0 : 0 < es.length := List.length_pos_iff.2 hz
  have hl : rs.length = es.length := by rw [← he, List.length_map]
  rcases h1.2 with ⟨_, h0'⟩ | ⟨g, cap, cur, h', hb, hh, hnc, hcm, hcs, htake⟩
  · omega
  · simp only [Value.slice.injEq] at h'
    obtain ⟨rfl, rfl, rfl⟩ := h'
    refine ⟨g, 0, fun i => (rs[i]?.map Rw.a).getD none, fun i => (rs[i]?.map Rw.c).getD 0, rfl, (h1.lt g rfl).2, fun i e hi => ?_⟩
    have hi0 : i < es.length := (List.getElem?_eq_some_iff.1 hi).1
    obtain ⟨r, hr⟩ : ∃ r, rs[i]? = some r := ⟨rs[i]'(by omega), List.getElem?_eq_getElem (by omega)⟩
    have hre : r.e = e := by
      have : (rs.map Rw.e)[i]? = some r.e := by rw [List.getElem?_map, hr]; rfl
      rw [he, hi] at this
      exact (Option.some.inj this).symm
    have hc := fun q hq => (h1.cellAt (i * 4 + q) (by omega)).trans (rowR_get rs i q r hr hq)
    simp only [hr, Option.map_some, Option.getD_some, Nat.zero_add]
    rw [← hre]
    exact ⟨hc 0 (by decide), hc 1 (by decide), hc 2 (by decide), hc 3 (by decide), h2 r (List.mem_of_getElem? hr)⟩
theorem GE.rd {B T : Nat} {w : World} {a : Option Addr} {n c : Nat} {es : List En} (h : GE B T w (.slice a n c) es) : RdE w a es := h.se.rd
theorem SE.below {B : Nat} {w w' : World} {v : Value} {es : List En} (h : SE B w v es) (hk : Below w.heap.size w w') : SE B w' v es := by
  obtain ⟨rs, he, h1, h2⟩ := h
  exact ⟨rs, he, ownsRow_below h1 hk, fun r hr => (h2 r hr).below hk⟩
theorem own_block {a : Option Addr} {n c g : Nat} (hb : (Value.slice a n c).ownBlock = some g) : a.map Addr.block = some g := by
  cases a with
  | none => simp [Value.ownBlock] at hb
  | some x => simpa [Value.ownBlock] using hb
theorem block_own {a : Option Addr} {n c g : Nat} (hb : a.map Addr.block = some g) : (Value.slice a n c).ownBlock = some g := by
  cases a with
  | none => simp at hb
  | some x => simpa [Value.ownBlock] using hb
theorem GE.kept {S : Nat → Prop} {B T : Nat} {w w' : World} {v : Value} {es : List En} (h : GE B T w v es) (hk : Kept S w w') (hS : ∀ b, B ≤ b → b < T → ¬ S b) : GE B T w' v es := by
  obtain ⟨rs, he, h1, h2, h3, h4, h5⟩ := h
  exact ⟨rs, he, ownsRow_kept h1 hk (fun b hb => hS b (h1.lt b hb).1 (h5 b hb)), fun r hr => ownsRow_kept (h2 r hr) hk (fun b hb => hS b ((h2 r hr).lt b hb).1 (h4 r hr b (own_block hb))), h3, h4, h5⟩
theorem GE.below {B T : Nat} {w w' : World} {v : Value} {es : List En} (h : GE B T w v es) (hk : Below w.heap.size w w') : GE B T w' v es :=
  h.kept (S := fun _ => False) (Kept.of_below hk) (fun _ _ _ => id)
theorem GE.mono {B B' T : Nat} {w : World} {v : Value} {es : List En} (h : GE B T w v es) (hB : B' ≤ B) : GE B' T w v es := by
  obtain ⟨rs, he, h1, h2, h3, h4, h5⟩ := h
  exact ⟨rs, he, ownsRow_mono h1 hB, fun r hr => ownsRow_mono (h2 r hr) hB, h3, h4, h5⟩
theorem GE.wide {B T T' : Nat} {w : World} {v : Value} {es : List En} (h : GE B T w v es) (hT : T ≤ T') : GE B T' w v es := by
  obtain ⟨rs, he, h1, h2, h3, h4, h5⟩ := h
  exact ⟨rs, he, h1, h2, h3, fun r hr g hg => Nat.lt_of_lt_of_le (h4 r hr g hg) hT, fun b hb => Nat.lt_of_lt_of_le (h5 b hb) hT⟩
theorem GE.nil (B T : Nat) (w : World) : GE B T w (.slice none 0 0) [] :=
  ⟨[], rfl, World.ownsRow_nil _ _ _ _, fun r hr => by simp at hr, List.Pairwise.nil, fun r hr => by simp at hr, fun b hb => by simp [Value.ownBlock] at hb⟩
/-- One entry more at a list's end. -/
theorem GE.push {B : Nat} {w w1 w2 : World} {v v' : Value} {es : List En} {rs : List Rw} {e : En} {a : Option Addr} {c : Nat} (he : rs.map Rw.e = es)
    (h1 : w.ownsRow B 40 4 v es.length (rowR rs))
    (h2 : ∀ r ∈ rs, w.ownsRow B 2 1 (.slice r.a r.e.chunks.length r.c) r.e.chunks.length (r.e.chunks.map (Value.int .i64)))
    (h3 : rs.Pairwise (fun r r' => ∀ g, r.a.map Addr.block = some g → r'.a.map Addr.block ≠ some g)) (hB : B ≤ w.heap.size) (hbel : Below w.heap.size w w1)
    (hown : w1.ownsRow w.heap.size 2 1 (.slice a e.chunks.length c) e.chunks.length (e.chunks.map (Value.int .i64)))
    (hv' : w2.ownsRow B 40 4 v' (es.length + 1) (rowR rs ++ cellsR ⟨e, a, c⟩))
    (hk : Kept (fun b => v.ownBlock = some b) w1 w2) : GE B w2.heap.size w2 v' (es ++ [e]) := by
  have hA : ∀ r ∈ rs, ∀ g', r.a.map Addr.block = some g' → g' < w.heap.size := fun r hr g' hg => ((h2 r hr).lt g' (block_own hg)).2
  have hg0 : ∀ g', a.map Addr.block = some g' → w.heap.size ≤ g' ∧ g' < w1.heap.size := fun g' hg => hown.lt g' (block_own hg)
  have k1 := ownsRow_below h1 hbel
  have hsz := hk.size
  have hsz1 := hbel.size
  refine ⟨rs ++ [⟨e, a, c⟩], by rw [List.map_append, he]; rfl, ?_, ?_, ?_, ?_, fun b hb => (hv'.lt b hb).2⟩
  · rw [rowR_append, List.length_append]
    simpa [rowR] using hv'
  · intro r hr
    rcases List.mem_append.1 hr with hr | hr
    · have k2 := ownsRow_below (h2 r hr) hbel
      exact ownsRow_kept k2 hk (fun b hb hS => ownsRow_apart k1 k2 (by decide) hS hb)
    · simp only [List.mem_singleton] at hr
      subst hr
      exact ownsRow_kept (ownsRow_mono hown hB) hk (fun b hb hS => ownsRow_apart k1 hown (by decide) hS hb)
  · rw [List.pairwise_append]
    refine ⟨h3, List.pairwise_singleton _ _, fun r hr r' hr' g hg hg' => ?_⟩
    simp only [List.mem_singleton] at hr'
    subst hr'
    have := hA r hr g hg
    have := hg0 g hg'
    omega
  · intro r hr g hg
    rcases List.mem_append.1 hr with hr | hr
    · have := hA r hr g hg
      omega
    · simp only [List.mem_singleton] at hr
      subst hr
      have := hg0 g hg
      omega
/-- One entry more that shares its chunks. -/
theorem SE.push {B : Nat} {w w2 : World} {v v' : Value} {es : List En} {rs : List Rw} {e : En} {a : Option Addr} {c : Nat} (he : rs.map Rw.e = es)
    (h2 : ∀ r ∈ rs, Reads .i64 w2 r.a r.e.chunks) (hr : Reads .i64 w2 a e.chunks)
    (hv' : w2.ownsRow B 40 4 v' (es.length + 1) (rowR rs ++ cellsR ⟨e, a, c⟩)) : SE B w2 v' (es ++ [e]) := by
  refine ⟨rs ++ [⟨e, a, c⟩], by rw [List.map_append, he]; rfl, ?_, fun r hx => ?_⟩
  · rw [rowR_append, List.length_append]
    simpa [rowR] using hv'
  · rcases List.mem_append.1 hx with hx | hx
    · exact h2 r hx
    · simp only [List.mem_singleton] at hx
      subst hx
      exact hr

end Go.Proofs.YtjkmbicedbdifaaGreat

namespace Go.Proofs.YtjkmbicedbdifaaGreat
open Go.RowKit Go.Maps
set_option linter.unusedVariables false
attribute [local go_sem ↓] Go.wp_at_zero Go.wp_at_succ

/-- append(out, x...): out owned and made, x read, whether it has memory or not. -/
theorem wpList_append_take {P : Program} {wr : World} {ops : Array Oper} {rest : List Oper} {o : Oper} {a : Act} {Q : Exit → Act → World → Prop} (hgd : o.guard = none) (s x : Operand) (t : TypeId)
    (ho : o.op = .call { callee := .builtin .append, args := #[s, x], argTypes := #[t, t] })
    (base : Nat) (e : TypeId) (i : TypeInfo) (k : IntKind) (bytes : Nat) (hu : P.underlying t = some (.slice e)) (hi : P.info? e = some i) (hz : i.zero = some (.int k 0))
    (hsize : i.size = 1) (hby : i.bytes = bytes) (g c n : Nat) (ys : List Int) (hs : a.eval s = .slice (some ⟨g, 0, none⟩) n c) (hown : wr.ownsRow base e 1 (.slice (some ⟨g, 0, none⟩) n c) n (ys.map (Value.int k)))
    (xa : Option Addr) (m cap : Nat) (zs : List Int) (hx : a.eval x = .slice xa m cap) (hm : m = zs.length) (hr : Reads k wr xa zs)
    (N : Nat) (hN : n + m = N) (h63 : n + m ≤ maxLen) (hbytes : (n + m) * bytes ≤ 140737488355328) (hbase : base ≤ wr.heap.size)
    (h : ∀ av cv w', w'.ownsRow base e 1 (.slice av N cv) N ((ys ++ zs).map (Value.int k)) → Kept (fun b => b = g) wr w' → wpList P ops Q rest (a.put o.dst (.slice av N cv)) w') :
    wpList P ops Q (o :: rest) a wr := by
  subst hN
  cases xa with
  | some ad =>
    refine wpList_append_own _ hgd s x t ho base e i (.int k 0) 1 bytes hu hi hz hsize hby rfl (by decide) _ n _ hs hown ad m cap (zs.map (Value.int k)) hx (by simp [hm]) (fun j u hj => ?_) (ints_one _ _) h63 hbytes hbase ?_
    · have h0 : zs ≠ [] := fun e => by subst e; simp at hj
      obtain ⟨b, off, e1, hb, hc⟩ := hr h0
      simp only [Option.some.injEq] at e1
      subst e1
      exact reads_news hc j u hj
    · intro v' w' ho' hg _
      rw [← List.map_append] at ho'
      obtain ⟨av, cv, rfl⟩ := ownsRow_shape ho'
      exact h av cv w' ho' ⟨hg.os, hg.tape, hg.output, hg.size, fun q hq hn => hg.block q hq (fun e => hn (by simp [Value.ownBlock] at e; exact e))⟩
  | none =>
    have h0 : zs = [] := by
      by_cases h0 : zs = []
      · exact h0
      · obtain ⟨b, off, e1, _⟩ := hr h0; cases e1
    subst h0
    simp only [List.length_nil] at hm
    subst hm
    have hc : n ≤ c := ownsRow_cap hown
    have hrun : (Builtin.append_ #[t, t] o.type #[.slice (some ⟨g, 0, none⟩) n c, .slice none 0 cap]).run P wr = .ok (.slice (some ⟨g, 0, none⟩) (n + 0) c) wr := by
      simp [Builtin.append_, run_underlying hu, sizeOf, typeInfo, hi, Builtin.lenOf, Builtin.firstCells, storeCells, hc]
    refine wpList_plain hgd fun K hK => ?_
    unfold Oper.wp execOp
    simp only [ho, resolve, invoke, builtin, Sem.run_bind, Sem.run_pure, Result.andThen_ok, List.map_toArray, List.map_cons, List.map_nil, hs, hx, hrun]
    exact hK _ _ (h _ _ wr (by simpa using hown) (Kept.refl _ _))

/-- append(out, x) behind a walk that wrote the new block's number its own way. -/
theorem wpList_append_put {P : Program} {wr : World} {news : Array Value} {ops : Array Oper} {rest : List Oper} {o : Oper} {a : Act} {Q : Exit → Act → World → Prop} (hgd : o.guard = none) (s x : Operand) (t : TypeId)
    (ho : o.op = .call { callee := .builtin .append, args := #[s, x], argTypes := #[t, t] })
    (base : Nat) (e : TypeId) (i : TypeInfo) (z : Value) (size bytes : Nat) (ht : P.underlying t = some (.slice e)) (hi : P.info? e = some i) (hz : i.zero = some z)
    (hsize : i.size = size) (hby : i.bytes = bytes) (hzs : z.cells.size = size) (hsz : 0 < size)
    (v : Value) (n : Nat) (xs : List Value) (hs : a.eval s = v) (hown : wr.ownsRow base e size v n xs)
    (H : Nat) (hH : wr.heap.size = H) (hx : a.eval x = .slice (some ⟨H, 0, none⟩) 1 1) (hl : news.size = size) (h1 : ∀ u ∈ news.toList, u.oneCell' = true)
    (h63 : n + 1 ≤ maxLen) (hbytes : (n + 1) * bytes ≤ 140737488355328) (hbase : base ≤ wr.heap.size)
    (h : ∀ av cv w', w'.ownsRow base e size (.slice av (n + 1) cv) (n + 1) (xs ++ news.toList) → Kept (fun b => v.ownBlock = some b) wr w' → wpList P ops Q rest (a.put o.dst (.slice av (n + 1) cv)) w') :
    wpList P ops Q (o :: rest) a (wr.alloc (.cells news e)) := by
  subst hH
  refine wpList_append_one hgd s x t ho base e i z size bytes ht hi hz hsize hby hzs hsz v n xs hs hown hx hl h1 h63 hbytes hbase fun v' w' h2 h3 => ?_
  obtain ⟨av, cv, rfl⟩ := ownsRow_shape h2
  exact h av cv w' h2 h3

theorem row_addr {w : World} {B : Nat} {e : TypeId} {size n : Nat} {a : Option Addr} {c : Nat} {xs : List Value} (h : w.ownsRow B e size (.slice a n c) n xs) (hn : 0 < n ∨ ∃ g, (Value.slice a n c).ownBlock = some g) : ∃ g, a = some ⟨g, 0, none⟩ ∧ n ≤ c := by
  rcases h.2 with ⟨h', h0⟩ | ⟨g, cap, cur, h', _, _, hnc, _⟩
  · simp only [Value.slice.injEq] at h'
    rcases hn with hn | ⟨g, hg⟩
    · omega
    · rw [h'.1] at hg; simp [Value.ownBlock] at hg
  · simp only [Value.slice.injEq, true_and] at h'
    exact ⟨g, h'.1, by rw [h'.2]; exact hnc⟩
theorem GE.addr {B T : Nat} {w : World} {a : Option Addr} {n c : Nat} {es : List En} (h : GE B T w (.slice a n c) es) (hn : n = es.length) (ho : 0 < n ∨ ∃ g, (Value.slice a n c).ownBlock = some g) : ∃ g, a = some ⟨g, 0, none⟩ ∧ n ≤ c := by
  subst hn
  obtain ⟨rs, _, h1, _⟩ := h
  exact row_addr h1 ho
theorem GE.made (w : World) : GE w.heap.size (w.alloc (.cells #[] 40)).heap.size (w.alloc (.cells #[] 40)) (.slice (some ⟨w.heap.size, 0, none⟩) 0 0) [] :=
  ⟨[], rfl, World.ownsRow_made w #[] 0 (Nat.le_refl _) (Nat.zero_le _) rfl, fun r hr => by simp at hr, List.Pairwise.nil, fun r hr => by simp at hr, fun x hx => by simp [Value.ownBlock] at hx; subst hx; simp⟩
theorem GE.shape {B T : Nat} {w : World} {v : Value} {es : List En} (h : GE B T w v es) : ∃ a c, v = .slice a es.length c := h.se.shape
theorem take_len {α : Type} {es : List α} {k : Nat} (h : k ≤ es.length) : (es.take k).length = k := by rw [List.length_take]; omega

/-- What one round of the copy leaves. -/
theorem copy_step {wr w1 : World} {e : En} {x av : Option Addr} {cc cv : Nat} (hown : w1.ownsRow (wr.heap.size + 1) 2 1 (.slice av e.chunks.length cv) e.chunks.length (e.chunks.map (Value.int .i64)))
    (hk : Kept (fun b => b = wr.heap.size + 1) ((wr.alloc (.cells #[.string (str e.path), .int .i64 e.kind, .int .i64 e.size, .slice x e.chunks.length cc] 40)).alloc (.cells #[] 2)) w1) :
    (w1.cell? ⟨wr.heap.size, 0, none⟩ = some (.string (str e.path)) ∧ w1.cell? ⟨wr.heap.size, 1, none⟩ = some (.int .i64 e.kind) ∧ w1.cell? ⟨wr.heap.size, 2, none⟩ = some (.int .i64 e.size) ∧ w1.cell? ⟨wr.heap.size, 3, none⟩ = some (.slice x e.chunks.length cc) ∧ w1.frozen? ⟨wr.heap.size, 3, none⟩ = false) ∧
    Below wr.heap.size wr (w1.setCell ⟨wr.heap.size, 3, none⟩ (.slice av e.chunks.length cv)) ∧
    (w1.setCell ⟨wr.heap.size, 3, none⟩ (.slice av e.chunks.length cv)).ownsRow wr.heap.size 2 1 (.slice av e.chunks.length cv) e.chunks.length (e.chunks.map (Value.int .i64)) := by
  have hF := (Four.new wr (.string (str e.path)) (.int .i64 e.kind) (.int .i64 e.size) (.slice x e.chunks.length cc) 40).below (below_alloc _ (.cells #[] 2))
  have hfz : ((wr.alloc (.cells #[.string (str e.path), .int .i64 e.kind, .int .i64 e.size, .slice x e.chunks.length cc] 40)).alloc (.cells #[] 2)).frozen? ⟨wr.heap.size, 3, none⟩ = false := by
    rw [(below_alloc _ (.cells #[] 2)).frozen (p := ⟨wr.heap.size, 3, none⟩) (by simp)]
    simp
  have hBB : Below wr.heap.size wr ((wr.alloc (.cells #[.string (str e.path), .int .i64 e.kind, .int .i64 e.size, .slice x e.chunks.length cc] 40)).alloc (.cells #[] 2)) := below_next (below_alloc _ _) (below_alloc _ _)
  have hlt := hF.lt
  generalize (wr.alloc (.cells #[.string (str e.path), .int .i64 e.kind, .int .i64 e.size, .slice x e.chunks.length cc] 40)).alloc (.cells #[] 2) = W at *
  obtain ⟨f0, f1, f2, f3⟩ := hF
  have hne : ¬ (wr.heap.size = wr.heap.size + 1) := by omega
  refine ⟨⟨(hk.cell (p := ⟨wr.heap.size, 0, none⟩) hlt hne).trans f0, (hk.cell (p := ⟨wr.heap.size, 1, none⟩) hlt hne).trans f1, (hk.cell (p := ⟨wr.heap.size, 2, none⟩) hlt hne).trans f2, (hk.cell (p := ⟨wr.heap.size, 3, none⟩) hlt hne).trans f3, (hk.frozen (p := ⟨wr.heap.size, 3, none⟩) hlt hne).trans hfz⟩, ?_, ?_⟩
  · exact (hBB.trans (hk.below hBB.size (fun k hk h => by omega))).setCell (p := ⟨wr.heap.size, 3, none⟩) (Nat.le_refl _) _
  · refine ownsRow_mono (base := wr.heap.size + 1) ?_ (by omega)
    exact ownsRow_kept (S := fun b => b = wr.heap.size) hown (Kept.setCell (S := fun b => b = wr.heap.size) (p := ⟨wr.heap.size, 3, none⟩) (Kept.refl _ w1) (fun _ => rfl) _) (fun b hb hS => by have := (hown.lt b hb).1; omega)

set_option maxRecDepth 100000 in
set_option maxHeartbeats 3200000 in
theorem l4Copy_any (a : Option Addr) (c n : Nat) (es : List En) (w : World) (h : RdE w a es) (hn : n = es.length) (hl : es.length ≤ 1048576) (hs : SmallE es) :
    Calls Tryz.prog 113 #[.slice a n c] w fun r w' => ∃ g cv, r = .returned (.slice (some ⟨g, 0, none⟩) n cv) ∧ n ≤ cv ∧ GE w.heap.size w'.heap.size w' (.slice (some ⟨g, 0, none⟩) n cv) es ∧ Below w.heap.size w w' := by
  subst hn
  obtain ⟨i1, ki, kz0, kz1, kz2⟩ := info_parts Tryz.infoEn
  obtain ⟨i0, hi0, hz0, hz1, hz2⟩ := info_parts Tryz.infoI64
  have HA := hide h
  have HS := hide hs
  clear h hs
  go_enter Tryz.func113, Tryz.ntmps113
  go_wp2_with fail
  go_loopw [3, 4] (fun v i wr => ∃ j : Nat, j ≤ es.length ∧ i = .int .i64 j ∧ Hid (GE w.heap.size wr.heap.size wr v (es.take j)) ∧ Hid (∃ g, v.ownBlock = some g) ∧ Hid (Below w.heap.size w wr)) (fun _ i _ => es.length - (intOf i).toNat)
  case atStart => exact ⟨0, Nat.zero_le _, rfl, hide (GE.made w), hide ⟨_, rfl⟩, hide (below_alloc _ _)⟩
  case round =>
    obtain ⟨j, hj, rfl, HG, HOb, HW⟩ := hrel
    obtain ⟨lv, lc, hv⟩ := HG.out.shape
    rw [take_len hj] at hv
    subst hv
    have HA1 := hide (HA.out.below HW.out)
    have hsz := HW.out.size
    by_cases hlt : j < es.length
    · obtain ⟨b, off, e, x, cc, rfl, hb, he, c0, c1, c2, c3, hr⟩ := HA1.out.at hlt
      have HX := hide he
      have HRc := hide hr
      have hsm := HS.out e (List.mem_of_getElem? he)
      clear he hr
      obtain ⟨rs, g1, g2, g3, g4, g5, g6⟩ := HG.out
      have G1 := hide g1
      have G2 := hide g2
      have G3 := hide g3
      have G4 := hide g4
      clear g1 g2 g3 g4 g5 g6 HG
      have hj1 : (es.take j).length = j := take_len hj
      have OWN0 : Hid (((wr.alloc (.cells #[.string (str e.path), .int .i64 e.kind, .int .i64 e.size, .slice x e.chunks.length cc] 40)).alloc (.cells #[] 2)).ownsRow (wr.heap.size + 1) 2 1 (.slice (some ⟨wr.heap.size + 1, 0, none⟩) 0 0) 0 (([] : List Int).map (Value.int .i64))) := hide (by
        have := World.ownsRow_made (base := wr.heap.size + 1) (e := 2) (size := 1) (wr.alloc (.cells #[.string (str e.path), .int .i64 e.kind, .int .i64 e.size, .slice x e.chunks.length cc] 40)) #[] 0 (by simp) (Nat.zero_le _) rfl
        simpa using this)
      have RD0 : Hid (Reads .i64 ((wr.alloc (.cells #[.string (str e.path), .int .i64 e.kind, .int .i64 e.size, .slice x e.chunks.length cc] 40)).alloc (.cells #[] 2)) x e.chunks) := HRc.out.below (below_next (below_alloc _ _) (below_alloc _ _))
      have hm0 : 0 + e.chunks.length ≤ maxLen := by unfold maxLen; omega
      have hm0' : (0 + e.chunks.length) * 8 ≤ 140737488355328 := by omega
      have hm1 : j + 1 ≤ maxLen := by unfold maxLen; omega
      have hm1' : (j + 1) * 56 ≤ 140737488355328 := by omega
      have G2' : Hid (wr.ownsRow w.heap.size 40 4 (.slice lv j lc) j (rowR rs)) := by have := G2.out; rw [hj1] at this; exact this
      have HJ := hide hj1
      clear hj1
      go_wp2_with (first
        | (at_builtin; refine wpList_append_take rfl (.tmp 17) (.tmp 19) 38 rfl (wr.heap.size + 1) 2 i0 .i64 8 Tryz.underlying38 hi0 hz0 hz1 hz2 (wr.heap.size + 1) 0 0 [] rfl OWN0.out x e.chunks.length cc e.chunks rfl rfl RD0.out e.chunks.length (by simp) hm0 hm0' (by simp) ?_; intro av cv w1 hown1 hk1; obtain ⟨⟨f0, f1, f2, f3, f4⟩, hB1, hO1⟩ := copy_step hown1 hk1; have B1 := hide hB1; have O1 := hide hO1; have O2 := hide (ownsRow_below G2'.out hB1); have hs1 := hB1.size; have hH1 : (w1.setCell ⟨wr.heap.size, 3, none⟩ (.slice av e.chunks.length cv)).heap.size = w1.heap.size := (by simp [World.setCell]); clear hown1 hk1 hB1 hO1)
        | (at_builtin; refine wpList_append_put rfl (.tmp 22) (.tmp 24) 30 rfl w.heap.size 40 i1 (.agg #[.string ⟨#[]⟩, .int .i64 0, .int .i64 0, .slice none 0 0]) 4 56 Tryz.underlying30 ki kz0 kz1 kz2 rfl (by decide) _ _ _ rfl O2.out _ hH1 rfl rfl (by intro u hu; simp at hu; rcases hu with rfl | rfl | rfl | rfl <;> rfl) hm1 hm1' (by omega) ?_; intro av3 cv3 w3 hown2 hkept; have O3 := hide hown2; have K3 := hide hkept; clear hown2 hkept))
      go_roundw
      case rel =>
        refine ⟨j + 1, by omega, by go_num, hide ?_, hide ?_, hide ?_⟩
        · rw [take_snoc_at HX.out]
          exact GE.push G1.out G2.out G3.out G4.out hsz B1.out O1.out (by rw [HJ.out]; exact O3.out) K3.out
        · obtain ⟨g5, h5, _⟩ := row_addr O3.out (.inl (by omega))
          exact ⟨g5, by rw [h5]; rfl⟩
        · exact (below_next HW.out B1.out).trans (K3.out.below (by omega) (fun k hk hx => by have := (G2'.out.lt k hx).1; omega))
      case measure => simp [intOf]; omega
    · have hje : j = es.length := by omega
      have HE := hide (show es.take j = es from List.take_of_length_le (by omega))
      obtain ⟨g5, h5, h6⟩ := HG.out.addr (take_len hj).symm (.inr HOb.out)
      subst h5
      have HG2 : Hid (GE w.heap.size wr.heap.size wr (.slice (some ⟨g5, 0, none⟩) j lc) es) := by have := HG.out; rw [HE.out] at this; exact this
      clear HG HE
      subst hje
      go_wp2_with fail
      go_ret
      exact ⟨_, _, rfl, h6, HG2.out, HW.out⟩

end Go.Proofs.YtjkmbicedbdifaaGreat

namespace Go.Proofs.YtjkmbicedbdifaaGreat
open Go.RowKit
set_option linter.unusedVariables false

theorem wpList_app {P : Program} {w : World} {ops : Array Oper} {rest : List Oper} {o : Oper} {a : Act} {Q : Exit → Act → World → Prop} (hgd : o.guard = none) (s x : Operand) (t : TypeId)
    (ho : o.op = .call { callee := .builtin .append, args := #[s, x], argTypes := #[t, t] })
    (base : Nat) (e : TypeId) (i : TypeInfo) (z : Value) (size bytes : Nat) (ht : P.underlying t = some (.slice e)) (hi : P.info? e = some i) (hz : i.zero = some z)
    (hsize : i.size = size) (hby : i.bytes = bytes) (hzs : z.cells.size = size) (hsz : 0 < size)
    (v : Value) (n : Nat) (xs : List Value) (hs : a.eval s = v) (hown : w.ownsRow base e size v n xs)
    (ad : Addr) (m c : Nat) (news : List Value) (hx : a.eval x = .slice (some ad) m c) (hl : news.length = m * size) (hnews : ∀ j u, news[j]? = some u → w.cell? (ad.add j) = some u) (h1 : ∀ u ∈ news, u.oneCell' = true)
    (N : Nat) (hN : n + m = N) (h63 : n + m ≤ maxLen) (hbytes : (n + m) * bytes ≤ 140737488355328) (hbase : base ≤ w.heap.size)
    (h : ∀ av cv w', w'.ownsRow base e size (.slice av N cv) N (xs ++ news) → Kept (fun b => v.ownBlock = some b) w w' → wpList P ops Q rest (a.put o.dst (.slice av N cv)) w') :
    wpList P ops Q (o :: rest) a w := by
  refine wpList_append_own w hgd s x t ho base e i z size bytes ht hi hz hsize hby hzs hsz v n xs hs hown ad m c news hx hl hnews h1 h63 hbytes hbase fun v' w' h2 h3 _ => ?_
  rw [hN] at h2
  obtain ⟨av, cv, rfl⟩ := ownsRow_shape h2
  exact h av cv w' h2 ⟨h3.os, h3.tape, h3.output, h3.size, fun q hq hn => h3.block q hq (fun e => hn e.symm)⟩
/-- append at a step of a region that draws its order. -/
theorem step_app {P : Program} {w : World} {ops : Array Oper} {o : Oper} {a : Act} {K : Act → World → Prop} {Q : Exit → Act → World → Prop} {E : Prop} (hgd : o.guard = none) (s x : Operand) (t : TypeId)
    (ho : o.op = .call { callee := .builtin .append, args := #[s, x], argTypes := #[t, t] })
    (base : Nat) (e : TypeId) (i : TypeInfo) (z : Value) (size bytes : Nat) (ht : P.underlying t = some (.slice e)) (hi : P.info? e = some i) (hz : i.zero = some z)
    (hsize : i.size = size) (hby : i.bytes = bytes) (hzs : z.cells.size = size) (hsz : 0 < size)
    (v : Value) (n : Nat) (xs : List Value) (hs : a.eval s = v) (hown : w.ownsRow base e size v n xs)
    (ad : Addr) (m c : Nat) (news : List Value) (hx : a.eval x = .slice (some ad) m c) (hl : news.length = m * size) (hnews : ∀ j u, news[j]? = some u → w.cell? (ad.add j) = some u) (h1 : ∀ u ∈ news, u.oneCell' = true)
    (N : Nat) (hN : n + m = N) (h63 : n + m ≤ maxLen) (hbytes : (n + m) * bytes ≤ 140737488355328) (hbase : base ≤ w.heap.size)
    (h : ∀ av cv w', w'.ownsRow base e size (.slice av N cv) N (xs ++ news) → Kept (fun b => v.ownBlock = some b) w w' → K (a.put o.dst (.slice av N cv)) w') :
    if Region.wanted o (yielded ops a.tmps) = true then Oper.wp P o a w K Q else E := by
  have hw : Region.wanted o (yielded ops a.tmps) = true := by simp [Region.wanted, hgd]
  rw [if_pos hw]
  refine wp_append_own w s x t ho base e i z size bytes ht hi hz hsize hby hzs hsz v n xs hs hown ad m c news hx hl hnews h1 h63 hbytes hbase fun v' w' h2 h3 _ => ?_
  rw [hN] at h2
  obtain ⟨av, cv, rfl⟩ := ownsRow_shape h2
  exact h av cv w' h2 ⟨h3.os, h3.tape, h3.output, h3.size, fun q hq hn => h3.block q hq (fun e => hn e.symm)⟩
theorem addr_add (b o j : Nat) : (⟨b, o, none⟩ : Addr).add j = ⟨b, o + j, none⟩ := by unfold Addr.add; split <;> simp_all
end Go.Proofs.YtjkmbicedbdifaaGreat

namespace Go.Proofs.YtjkmbicedbdifaaGreat
open Go.RowKit
set_option linter.unusedVariables false
attribute [local go_sem ↓] Go.wp_at_zero Go.wp_at_succ

/-- How many of a list's first names lie under a name. -/
def lowS (ps : List Bs) (p : Bs) : Nat := (ps.takeWhile fun x => Op.bytesLess x p).length
def putS (ps : List Bs) (p : Bs) : List Bs := ps.take (lowS ps p) ++ p :: ps.drop (lowS ps p)
theorem lowS_at {bs : List Bs} {p : Bs} {k : Nat} (hk : k ≤ bs.length) (h1 : (bs.take k).all (fun x => Op.bytesLess x p) = true) (h2 : ∀ y, bs[k]? = some y → Op.bytesLess y p = false) : lowS bs p = k := by
  have e : bs = bs.take k ++ bs.drop k := (List.take_append_drop k bs).symm
  have hd : (bs.drop k).takeWhile (fun x => Op.bytesLess x p) = [] := by
    cases hx : bs.drop k with
    | nil => rfl
    | cons y r =>
      have : bs[k]? = some y := by
        have h3 := congrArg (fun l => l[0]?) hx
        simpa using h3
      simp [h2 y this]
  unfold lowS
  conv => lhs; rw [e]
  rw [List.takeWhile_append_of_pos (by intro x hx; exact List.all_eq_true.1 h1 x hx), hd, List.append_nil, List.length_take]
  omega
theorem putS_len (ps : List Bs) (p : Bs) : (putS ps p).length = ps.length + 1 := by
  unfold putS
  have : lowS ps p ≤ ps.length := by unfold lowS; exact List.Sublist.length_le (List.takeWhile_sublist _)
  simp; omega
theorem vS_one (ys : List Bs) : ∀ u ∈ ys.map vS, u.oneCell' = true := by
  intro u hu
  obtain ⟨p, -, rfl⟩ := List.mem_map.1 hu
  rfl
theorem reads_newsS {w : World} {b off : Nat} {ys : List Bs} (h : ∀ i, i < ys.length → w.cell? ⟨b, off + i, none⟩ = some (.string (str (ys.getD i [])))) : ∀ j u, (ys.map vS)[j]? = some u → w.cell? ((⟨b, off, none⟩ : Addr).add j) = some u := by
  intro j u hj
  rw [addr_add]
  have hlt : j < ys.length := by have := (List.getElem?_eq_some_iff.1 hj).1; simpa using this
  rw [h j hlt]
  rw [List.getElem?_map, List.getElem?_eq_getElem hlt] at hj
  simp only [Option.map_some, Option.some.injEq] at hj
  rw [← hj, List.getD_eq_getElem?_getD, List.getElem?_eq_getElem hlt]
  rfl
/-- append(x, y...) of texts, at a step of a region that draws its order: y read, nil or not. -/
theorem step_appS {P : Program} {w : World} {ops : Array Oper} {o : Oper} {a : Act} {K : Act → World → Prop} {Q : Exit → Act → World → Prop} {E : Prop} (hgd : o.guard = none) (s x : Operand) (t : TypeId)
    (ho : o.op = .call { callee := .builtin .append, args := #[s, x], argTypes := #[t, t] })
    (base : Nat) (e : TypeId) (i : TypeInfo) (ht : P.underlying t = some (.slice e)) (hi : P.info? e = some i) (hz : i.zero = some (.string ⟨#[]⟩))
    (hsize : i.size = 1) (hby : i.bytes = 16)
    (av0 : Option Addr) (n c0 : Nat) (xs : List Bs) (hs : a.eval s = .slice av0 n c0) (hown : w.ownsRow base e 1 (.slice av0 n c0) n (xs.map vS))
    (xv : Option Addr) (m xc : Nat) (ys : List Bs) (hx : a.eval x = .slice xv m xc) (hm : ys.length = m) (hr : ReadsS w xv ys)
    (N : Nat) (hN : n + m = N) (h63 : n + m ≤ maxLen) (hbytes : (n + m) * 16 ≤ 140737488355328) (hbase : base ≤ w.heap.size)
    (h : ∀ av cv w', w'.ownsRow base e 1 (.slice av N cv) N ((xs ++ ys).map vS) → Kept (fun b => (Value.slice av0 n c0).ownBlock = some b) w w' → K (a.put o.dst (.slice av N cv)) w') :
    if Region.wanted o (yielded ops a.tmps) = true then Oper.wp P o a w K Q else E := by
  have hw : Region.wanted o (yielded ops a.tmps) = true := by simp [Region.wanted, hgd]
  rw [if_pos hw]
  subst hm
  cases xv with
  | some ad =>
    refine wp_append_own w s x t ho base e i (.string ⟨#[]⟩) 1 16 ht hi hz hsize hby rfl (by decide) _ n _ hs hown ad ys.length xc (ys.map vS) hx (by simp) (fun j u hj => ?_) (vS_one ys) h63 hbytes hbase fun v' w' h2 h3 _ => ?_
    · have h0 : ys ≠ [] := fun e => by subst e; simp at hj
      obtain ⟨b, off, e1, hb, hc⟩ := hr h0
      simp only [Option.some.injEq] at e1
      subst e1
      exact reads_newsS hc j u hj
    · rw [hN] at h2
      obtain ⟨av, cv, rfl⟩ := ownsRow_shape h2
      exact h av cv w' (by rw [List.map_append]; exact h2) ⟨h3.os, h3.tape, h3.output, h3.size, fun q hq hn => h3.block q hq (fun e => hn e.symm)⟩
  | none =>
    have h0 : ys = [] := by
      by_cases h0 : ys = []
      · exact h0
      · obtain ⟨b, off, e1, -⟩ := hr h0; cases e1
    subst h0
    have hN' : N = n := by simp at hN; omega
    subst hN'
    have hc0 : (if xc = 0 then true else true) = true := by split <;> rfl
    have hrun : (Builtin.append_ #[t, t] o.type #[.slice av0 N c0, .slice none 0 xc]).run P w = .ok (.slice av0 N c0) w := by
      rcases hown.2 with ⟨hv, h0⟩ | ⟨g, cap, cur, hv, -, -, hnc, -⟩
      · simp only [Value.slice.injEq] at hv
        obtain ⟨rfl, rfl, rfl⟩ := hv
        simp [Builtin.append_, run_underlying ht, sizeOf, typeInfo, hi, Builtin.lenOf, Builtin.firstCells]
      · simp only [Value.slice.injEq, true_and] at hv
        obtain ⟨rfl, rfl⟩ := hv
        simp [Builtin.append_, run_underlying ht, sizeOf, typeInfo, hi, Builtin.lenOf, Builtin.firstCells, hnc, storeCells]
    unfold Oper.wp execOp
    simp only [ho, resolve, invoke, builtin, Sem.run_bind, Sem.run_pure, Result.andThen_ok, List.map_toArray, List.map_cons, List.map_nil, hs, hx, List.length_nil, hrun]
    exact h av0 c0 w (by rw [List.append_nil]; exact hown) (Kept.refl _ _)

theorem ReadsS.drop {w : World} {g : Nat} {ps : List Bs} (h : ReadsS w (some ⟨g, 0, none⟩) ps) (k : Nat) : ReadsS w (some ⟨g, k, none⟩) (ps.drop k) := by
  intro hz
  have hp : ps ≠ [] := by rintro rfl; simp at hz
  obtain ⟨b, off, e1, hb, hc⟩ := h hp
  simp only [Option.some.injEq, Addr.mk.injEq, and_true] at e1
  obtain ⟨rfl, rfl⟩ := e1
  refine ⟨g, k, rfl, hb, fun i hi => ?_⟩
  have hi' : k + i < ps.length := by simp at hi; omega
  have := hc (k + i) hi'
  rw [Nat.zero_add] at this
  rw [this]
  simp [List.getD_eq_getElem?_getD]
theorem reads_name (w : World) (p : Bs) : ReadsS (w.alloc (.cells #[.string (str p)] 9)) (some ⟨w.heap.size, 0, none⟩) [p] := by
  intro _
  refine ⟨w.heap.size, 0, rfl, by simp, fun i hi => ?_⟩
  obtain rfl : i = 0 := by simp at hi; omega
  simp
theorem made_none (w : World) : (w.alloc (.cells #[] 9)).ownsRow w.heap.size 9 1 (.slice (some ⟨w.heap.size, 0, none⟩) 0 0) 0 (([] : List Bs).map vS) := World.ownsRow_made w #[] 0 (Nat.le_refl _) (Nat.zero_le _) rfl

theorem apd_step {w w1 w2 : World} {b n c : Nat} (h : Below w.heap.size w w1) (hk : Kept (fun q => (Value.slice (some ⟨b, 0, none⟩) n c).ownBlock = some q) w1 w2) (hb : w.heap.size ≤ b) : Below w.heap.size w w2 :=
  h.trans (hk.below h.size (fun q hq hS => by simp [Value.ownBlock] at hS; omega))
theorem apd_step2 {w w1 w2 w3 : World} {t : TypeId} {a : Option Addr} {n c m : Nat} {xs : List Value} (h : Below w.heap.size w w1) (hk : Kept (fun q => (Value.slice a n c).ownBlock = some q) w1 w2) (ho : w3.ownsRow w.heap.size t 1 (.slice a n c) m xs) : Below w.heap.size w w2 :=
  h.trans (hk.below h.size (fun q hq hS => by have := (ho.lt q hS).1; omega))
theorem keep_name {w1 w2 : World} {b d n c : Nat} {p : Bs} (hk : Kept (fun q => (Value.slice (some ⟨b, 0, none⟩) n c).ownBlock = some q) w1 w2) (hd : d ≠ b) (h : ReadsS w1 (some ⟨d, 0, none⟩) [p]) : ReadsS w2 (some ⟨d, 0, none⟩) [p] :=
  h.kept hk (fun _ x hx hS => by simp only [Option.some.injEq] at hx; subst hx; simp [Value.ownBlock] at hS; exact hd hS.symm)
theorem put_own {B : Nat} {w : World} {a : Option Addr} {c k n : Nat} {ps qs : List Bs} {p : Bs} (h : w.ownsRow B 9 1 (.slice a n c) n ((((([] : List Bs) ++ ps.take k) ++ [p]) ++ ps.drop k).map vS)) (hq : qs = ps.take k ++ p :: ps.drop k) (hn : qs.length = n) : OwnS B w (.slice a n c) qs := by
  subst hq
  unfold OwnS
  rw [hn]
  simpa using h
set_option maxRecDepth 100000 in
set_option maxHeartbeats 12800000 in
theorem l8Put_some (g c : Nat) (ps : List Bs) (p : Bs) (w : World) (h : ReadsS w (some ⟨g, 0, none⟩) ps) (hc : ps.length ≤ c) (hl : ps.length ≤ 1048576) :
    Calls Tryz.prog 32 #[.slice (some ⟨g, 0, none⟩) ps.length c, .string (str p)] w fun r w' => ∃ av cv, r = .returned (.slice av (putS ps p).length cv) ∧ OwnS w.heap.size w' (.slice av (putS ps p).length cv) (putS ps p) ∧ Below w.heap.size w w' := by
  obtain ⟨i1, ki, kz0, kz1, kz2⟩ := info_parts infoS
  have HR := hide h
  clear h
  go_enter Tryz.func32, Tryz.ntmps32
  go_wp2_with fail
  go_loopw [5] (fun i wr => ∃ k : Nat, k ≤ ps.length ∧ i = .int .i64 k ∧ wr = w ∧ Hid ((ps.take k).all (fun x => Op.bytesLess x p) = true)) (fun i _ => ps.length - (intOf i).toNat)
  case atStart => exact ⟨0, Nat.zero_le _, rfl, rfl, hide (by simp)⟩
  case round =>
    obtain ⟨k, hk, rfl, rfl, HL⟩ := hrel
    have hk0 : (0 : Int) ≤ (k : Int) := by omega
    have hkc : (k : Int) ≤ (c : Int) := by omega
    have hkl : (k : Int) ≤ (ps.length : Int) := by omega
    have hlc : (ps.length : Int) ≤ (c : Int) := by omega
    by_cases hlt : k < ps.length
    · obtain ⟨b, off, q, hbb, hb, he, c0⟩ := HR.out.at hlt
      simp only [Option.some.injEq, Addr.mk.injEq, and_true] at hbb
      obtain ⟨rfl, rfl⟩ := hbb
      rw [Nat.zero_add] at c0
      have hk1 : (k : Int) < (ps.length : Int) := by omega
      have HX := hide he
      clear he
      cases hlo : Op.bytesLess (str q).toList (str p).toList
      · have HLk := hide (lowS_at hk HL.out (fun y' hy' => by rw [HX.out] at hy'; cases hy'; rw [str_toList, str_toList] at hlo; exact hlo))
        have hck : ¬ c = k := by omega
        have HPut := hide (show putS ps p = ps.take k ++ p :: ps.drop k from by unfold putS; rw [HLk.out])
        have HLen := hide (putS_len ps p)
        have BSA : Hid (Below wr.heap.size wr ((wr.alloc (.cells #[] 9)).drew)) := hide (below_alloc wr _).drew
        have BSB : Hid (Below wr.heap.size wr (((wr.alloc (.cells #[] 9)).alloc (.cells #[.string (str p)] 9)).drew)) := hide (below_next (below_alloc wr _) (below_alloc _ _)).drew
        have BSC : Hid (Below wr.heap.size wr (((wr.alloc (.cells #[.string (str p)] 9)).alloc (.cells #[] 9)).drew)) := hide (below_next (below_alloc wr _) (below_alloc _ _)).drew
        have OA : Hid (((wr.alloc (.cells #[] 9)).drew).ownsRow wr.heap.size 9 1 (.slice (some ⟨wr.heap.size, 0, none⟩) 0 0) 0 (([] : List Bs).map vS)) := hide (made_none wr)
        have OB : Hid ((((wr.alloc (.cells #[] 9)).alloc (.cells #[.string (str p)] 9)).drew).ownsRow wr.heap.size 9 1 (.slice (some ⟨wr.heap.size, 0, none⟩) 0 0) 0 (([] : List Bs).map vS)) := hide (ownsRow_below (made_none wr) (below_alloc _ _).drew)
        have OC : Hid ((((wr.alloc (.cells #[.string (str p)] 9)).alloc (.cells #[] 9)).drew).ownsRow wr.heap.size 9 1 (.slice (some ⟨wr.heap.size + 1, 0, none⟩) 0 0) 0 (([] : List Bs).map vS)) := hide (by have := made_none (wr.alloc (.cells #[.string (str p)] 9)); rw [show (wr.alloc (.cells #[.string (str p)] 9)).heap.size = wr.heap.size + 1 by simp] at this; exact ownsRow_mono this (by omega))
        have RNB : Hid (ReadsS (((wr.alloc (.cells #[] 9)).alloc (.cells #[.string (str p)] 9)).drew) (some ⟨wr.heap.size + 1, 0, none⟩) [p]) := hide (by have := reads_name (wr.alloc (.cells #[] 9)) p; rw [show (wr.alloc (.cells #[] 9)).heap.size = wr.heap.size + 1 by simp] at this; exact this)
        have RNC : Hid (ReadsS (((wr.alloc (.cells #[.string (str p)] 9)).alloc (.cells #[] 9)).drew) (some ⟨wr.heap.size, 0, none⟩) [p]) := hide ((reads_name wr p).below (below_alloc _ _).drew)
        have HNB : Hid (wr.heap.size + 1 ≠ wr.heap.size) := hide (by omega)
        have HNC : Hid (wr.heap.size ≠ wr.heap.size + 1) := hide (by omega)
        have HBA : Hid (wr.heap.size ≤ wr.heap.size) := hide (Nat.le_refl _)
        have HBB : Hid (wr.heap.size ≤ wr.heap.size) := hide (Nat.le_refl _)
        have HBC : Hid (wr.heap.size ≤ wr.heap.size + 1) := hide (by omega)
        have htk : Hid ((ps.take k).length = k) := hide (by rw [List.length_take]; omega)
        have hk00 : Hid (0 + k = k) := hide (by omega)
        have hdk : Hid ((ps.drop k).length = (ps.length - k)) := hide (by rw [List.length_drop])
        have hN3 : Hid (k + 1 + (ps.length - k) = ps.length + 1) := hide (by omega)
        have RTA : Hid (ReadsS ((wr.alloc (.cells #[] 9)).drew) (some ⟨g, 0, none⟩) (ps.take k)) := hide ((HR.out.below BSA.out).take k)
        have RTB : Hid (ReadsS (((wr.alloc (.cells #[] 9)).alloc (.cells #[.string (str p)] 9)).drew) (some ⟨g, 0, none⟩) (ps.take k)) := hide ((HR.out.below BSB.out).take k)
        have RTC : Hid (ReadsS (((wr.alloc (.cells #[.string (str p)] 9)).alloc (.cells #[] 9)).drew) (some ⟨g, 0, none⟩) (ps.take k)) := hide ((HR.out.below BSC.out).take k)
        have RD : Hid (∀ u : World, Below wr.heap.size wr u → ReadsS u (some ⟨g, k, none⟩) (ps.drop k)) := hide (fun u hu => (HR.out.below hu).drop k)
        have hm0 : 0 + k ≤ maxLen := by unfold maxLen; omega
        have hm0' : (0 + k) * 16 ≤ 140737488355328 := by omega
        have hm1 : k + 1 ≤ maxLen := by unfold maxLen; omega
        have hm1' : (k + 1) * 16 ≤ 140737488355328 := by omega
        have hm2 : k + 1 + (ps.length - k) ≤ maxLen := by unfold maxLen; omega
        have hm2' : (k + 1 + (ps.length - k)) * 16 ≤ 140737488355328 := by omega
        go_wp2_with fail
        go_region_law
          ((first
            | (refine step_appS (by rfl) (.tmp 20) (.tmp 23) 26 (by rfl) wr.heap.size 9 i1 Tryz.underlying26 ki kz0 kz1 kz2 (some ⟨wr.heap.size + 1, 0, none⟩) 0 0 [] (by rfl) OC.out (some ⟨g, 0, none⟩) k c (ps.take k) (by rfl) htk.out RTC.out k hk00.out hm0 hm0' BSC.out.size ?_; intro av3 cv3 w3 hown3 hk3; have RN3 := hide (keep_name hk3 HNC.out RNC.out); have BW3 := hide (apd_step BSC.out hk3 HBC.out); have O3 := hide hown3; clear hown3 hk3)
            | (refine step_appS (by rfl) (.tmp 20) (.tmp 23) 26 (by rfl) wr.heap.size 9 i1 Tryz.underlying26 ki kz0 kz1 kz2 (some ⟨wr.heap.size, 0, none⟩) 0 0 [] (by rfl) OB.out (some ⟨g, 0, none⟩) k c (ps.take k) (by rfl) htk.out RTB.out k hk00.out hm0 hm0' BSB.out.size ?_; intro av3 cv3 w3 hown3 hk3; have RN3 := hide (keep_name hk3 HNB.out RNB.out); have BW3 := hide (apd_step BSB.out hk3 HBB.out); have O3 := hide hown3; clear hown3 hk3)
            | (refine step_appS (by rfl) (.tmp 20) (.tmp 23) 26 (by rfl) wr.heap.size 9 i1 Tryz.underlying26 ki kz0 kz1 kz2 (some ⟨wr.heap.size, 0, none⟩) 0 0 [] (by rfl) OA.out (some ⟨g, 0, none⟩) k c (ps.take k) (by rfl) htk.out RTA.out k hk00.out hm0 hm0' BSA.out.size ?_; intro av3 cv3 w3 hown3 hk3; have BW3 := hide (apd_step BSA.out hk3 HBA.out); have O3 := hide hown3; clear hown3 hk3)
            | (refine step_appS (by rfl) (.tmp 24) (.tmp 26) 26 (by rfl) wr.heap.size 9 i1 Tryz.underlying26 ki kz0 kz1 kz2 av3 k cv3 (([] : List Bs) ++ ps.take k) (by rfl) O3.out (some ⟨wr.heap.size, 0, none⟩) 1 1 [p] (by rfl) rfl RN3.out (k + 1) rfl hm1 hm1' BW3.out.size ?_; intro av4 cv4 w4 hown4 hk4; have BW4 := hide (apd_step2 BW3.out hk4 O3.out); have O4 := hide hown4; clear hown4 hk4)
            | (refine step_appS (by rfl) (.tmp 24) (.tmp 26) 26 (by rfl) wr.heap.size 9 i1 Tryz.underlying26 ki kz0 kz1 kz2 av3 k cv3 (([] : List Bs) ++ ps.take k) (by rfl) O3.out (some ⟨wr.heap.size + 1, 0, none⟩) 1 1 [p] (by rfl) rfl RN3.out (k + 1) rfl hm1 hm1' BW3.out.size ?_; intro av4 cv4 w4 hown4 hk4; have BW4 := hide (apd_step2 BW3.out hk4 O3.out); have O4 := hide hown4; clear hown4 hk4)
            | (refine step_appS (by rfl) (.tmp 24) (.tmp 26) 26 (by rfl) wr.heap.size 9 i1 Tryz.underlying26 ki kz0 kz1 kz2 av3 k cv3 (([] : List Bs) ++ ps.take k) (by rfl) (ownsRow_below O3.out (below_alloc w3 (.cells #[.string (str p)] 9))) (some ⟨w3.heap.size, 0, none⟩) 1 1 [p] (by rfl) rfl (reads_name w3 p) (k + 1) rfl hm1 hm1' (below_next BW3.out (below_alloc w3 (.cells #[.string (str p)] 9))).size ?_; intro av4 cv4 w4 hown4 hk4; have BW4 := hide (apd_step2 (below_next BW3.out (below_alloc w3 (.cells #[.string (str p)] 9))) hk4 O3.out); have O4 := hide hown4; clear hown4 hk4)
            | (refine step_appS (by rfl) (.tmp 27) (.tmp 30) 26 (by rfl) wr.heap.size 9 i1 Tryz.underlying26 ki kz0 kz1 kz2 av4 (k + 1) cv4 ((([] : List Bs) ++ ps.take k) ++ [p]) (by rfl) O4.out (some ⟨g, k, none⟩) (ps.length - k) (c - k) (ps.drop k) (by rfl) hdk.out (RD.out _ BW4.out) (ps.length + 1) hN3.out hm2 hm2' BW4.out.size ?_; intro av5 cv5 w5 hown5 hk5; have BW5 := hide (apd_step2 BW4.out hk5 O4.out); have O5 := hide hown5; clear hown5 hk5)))
        all_goals
          go_wp2_with fail
          go_ret
          exact ⟨av5, cv5, by rw [HLen.out]; rfl, by rw [HLen.out]; exact put_own O5.out HPut.out HLen.out, BW5.out⟩
      · have HLk := hide (show (ps.take (k + 1)).all (fun x => Op.bytesLess x p) = true from by
          rw [str_toList, str_toList] at hlo
          rw [take_snoc_at HX.out]; simp only [List.all_append, HL.out, List.all_cons, hlo, List.all_nil, Bool.and_self])
        go_wp2_with fail
        go_roundw
        case rel => exact ⟨k + 1, by omega, by go_num, (by first | rfl | trivial), HLk⟩
        case measure => simp [intOf]; omega
    · have HLk := hide (lowS_at hk HL.out (fun y' hy' => by have := (List.getElem?_eq_some_iff.1 hy').1; omega))
      have hk1 : ¬ (k : Int) < (ps.length : Int) := by omega
      by_cases hck : c = k
      · obtain rfl : k = c := hck.symm
        have hkn : k = ps.length := by omega
        have HPut := hide (show putS ps p = ps.take k ++ p :: ps.drop k from by unfold putS; rw [HLk.out])
        have HLen := hide (putS_len ps p)
        have BSA : Hid (Below wr.heap.size wr ((wr.alloc (.cells #[] 9)).drew)) := hide (below_alloc wr _).drew
        have BSB : Hid (Below wr.heap.size wr (((wr.alloc (.cells #[] 9)).alloc (.cells #[.string (str p)] 9)).drew)) := hide (below_next (below_alloc wr _) (below_alloc _ _)).drew
        have BSC : Hid (Below wr.heap.size wr (((wr.alloc (.cells #[.string (str p)] 9)).alloc (.cells #[] 9)).drew)) := hide (below_next (below_alloc wr _) (below_alloc _ _)).drew
        have OA : Hid (((wr.alloc (.cells #[] 9)).drew).ownsRow wr.heap.size 9 1 (.slice (some ⟨wr.heap.size, 0, none⟩) 0 0) 0 (([] : List Bs).map vS)) := hide (made_none wr)
        have OB : Hid ((((wr.alloc (.cells #[] 9)).alloc (.cells #[.string (str p)] 9)).drew).ownsRow wr.heap.size 9 1 (.slice (some ⟨wr.heap.size, 0, none⟩) 0 0) 0 (([] : List Bs).map vS)) := hide (ownsRow_below (made_none wr) (below_alloc _ _).drew)
        have OC : Hid ((((wr.alloc (.cells #[.string (str p)] 9)).alloc (.cells #[] 9)).drew).ownsRow wr.heap.size 9 1 (.slice (some ⟨wr.heap.size + 1, 0, none⟩) 0 0) 0 (([] : List Bs).map vS)) := hide (by have := made_none (wr.alloc (.cells #[.string (str p)] 9)); rw [show (wr.alloc (.cells #[.string (str p)] 9)).heap.size = wr.heap.size + 1 by simp] at this; exact ownsRow_mono this (by omega))
        have RNB : Hid (ReadsS (((wr.alloc (.cells #[] 9)).alloc (.cells #[.string (str p)] 9)).drew) (some ⟨wr.heap.size + 1, 0, none⟩) [p]) := hide (by have := reads_name (wr.alloc (.cells #[] 9)) p; rw [show (wr.alloc (.cells #[] 9)).heap.size = wr.heap.size + 1 by simp] at this; exact this)
        have RNC : Hid (ReadsS (((wr.alloc (.cells #[.string (str p)] 9)).alloc (.cells #[] 9)).drew) (some ⟨wr.heap.size, 0, none⟩) [p]) := hide ((reads_name wr p).below (below_alloc _ _).drew)
        have HNB : Hid (wr.heap.size + 1 ≠ wr.heap.size) := hide (by omega)
        have HNC : Hid (wr.heap.size ≠ wr.heap.size + 1) := hide (by omega)
        have HBA : Hid (wr.heap.size ≤ wr.heap.size) := hide (Nat.le_refl _)
        have HBB : Hid (wr.heap.size ≤ wr.heap.size) := hide (Nat.le_refl _)
        have HBC : Hid (wr.heap.size ≤ wr.heap.size + 1) := hide (by omega)
        have htk : Hid ((ps.take k).length = k) := hide (by rw [List.length_take]; omega)
        have hk00 : Hid (0 + k = k) := hide (by omega)
        have hdk : Hid ((ps.drop k).length = 0) := hide (by rw [List.length_drop]; omega)
        have hN3 : Hid (k + 1 + 0 = ps.length + 1) := hide (by omega)
        have RTA : Hid (ReadsS ((wr.alloc (.cells #[] 9)).drew) (some ⟨g, 0, none⟩) (ps.take k)) := hide ((HR.out.below BSA.out).take k)
        have RTB : Hid (ReadsS (((wr.alloc (.cells #[] 9)).alloc (.cells #[.string (str p)] 9)).drew) (some ⟨g, 0, none⟩) (ps.take k)) := hide ((HR.out.below BSB.out).take k)
        have RTC : Hid (ReadsS (((wr.alloc (.cells #[.string (str p)] 9)).alloc (.cells #[] 9)).drew) (some ⟨g, 0, none⟩) (ps.take k)) := hide ((HR.out.below BSC.out).take k)
        have RD : Hid (∀ u : World, Below wr.heap.size wr u → ReadsS u (some ⟨g, 0, none⟩) (ps.drop k)) := hide (fun u hu => by rw [List.drop_eq_nil_of_le (by omega)]; exact ReadsS.nil _ _)
        have hm0 : 0 + k ≤ maxLen := by unfold maxLen; omega
        have hm0' : (0 + k) * 16 ≤ 140737488355328 := by omega
        have hm1 : k + 1 ≤ maxLen := by unfold maxLen; omega
        have hm1' : (k + 1) * 16 ≤ 140737488355328 := by omega
        have hm2 : k + 1 + 0 ≤ maxLen := by unfold maxLen; omega
        have hm2' : (k + 1 + 0) * 16 ≤ 140737488355328 := by omega
        clear hkn
        go_wp2_with fail
        go_region_law
          ((first
            | (refine step_appS (by rfl) (.tmp 20) (.tmp 23) 26 (by rfl) wr.heap.size 9 i1 Tryz.underlying26 ki kz0 kz1 kz2 (some ⟨wr.heap.size + 1, 0, none⟩) 0 0 [] (by rfl) OC.out (some ⟨g, 0, none⟩) k k (ps.take k) (by rfl) htk.out RTC.out k hk00.out hm0 hm0' BSC.out.size ?_; intro av3 cv3 w3 hown3 hk3; have RN3 := hide (keep_name hk3 HNC.out RNC.out); have BW3 := hide (apd_step BSC.out hk3 HBC.out); have O3 := hide hown3; clear hown3 hk3)
            | (refine step_appS (by rfl) (.tmp 20) (.tmp 23) 26 (by rfl) wr.heap.size 9 i1 Tryz.underlying26 ki kz0 kz1 kz2 (some ⟨wr.heap.size, 0, none⟩) 0 0 [] (by rfl) OB.out (some ⟨g, 0, none⟩) k k (ps.take k) (by rfl) htk.out RTB.out k hk00.out hm0 hm0' BSB.out.size ?_; intro av3 cv3 w3 hown3 hk3; have RN3 := hide (keep_name hk3 HNB.out RNB.out); have BW3 := hide (apd_step BSB.out hk3 HBB.out); have O3 := hide hown3; clear hown3 hk3)
            | (refine step_appS (by rfl) (.tmp 20) (.tmp 23) 26 (by rfl) wr.heap.size 9 i1 Tryz.underlying26 ki kz0 kz1 kz2 (some ⟨wr.heap.size, 0, none⟩) 0 0 [] (by rfl) OA.out (some ⟨g, 0, none⟩) k k (ps.take k) (by rfl) htk.out RTA.out k hk00.out hm0 hm0' BSA.out.size ?_; intro av3 cv3 w3 hown3 hk3; have BW3 := hide (apd_step BSA.out hk3 HBA.out); have O3 := hide hown3; clear hown3 hk3)
            | (refine step_appS (by rfl) (.tmp 24) (.tmp 26) 26 (by rfl) wr.heap.size 9 i1 Tryz.underlying26 ki kz0 kz1 kz2 av3 k cv3 (([] : List Bs) ++ ps.take k) (by rfl) O3.out (some ⟨wr.heap.size, 0, none⟩) 1 1 [p] (by rfl) rfl RN3.out (k + 1) rfl hm1 hm1' BW3.out.size ?_; intro av4 cv4 w4 hown4 hk4; have BW4 := hide (apd_step2 BW3.out hk4 O3.out); have O4 := hide hown4; clear hown4 hk4)
            | (refine step_appS (by rfl) (.tmp 24) (.tmp 26) 26 (by rfl) wr.heap.size 9 i1 Tryz.underlying26 ki kz0 kz1 kz2 av3 k cv3 (([] : List Bs) ++ ps.take k) (by rfl) O3.out (some ⟨wr.heap.size + 1, 0, none⟩) 1 1 [p] (by rfl) rfl RN3.out (k + 1) rfl hm1 hm1' BW3.out.size ?_; intro av4 cv4 w4 hown4 hk4; have BW4 := hide (apd_step2 BW3.out hk4 O3.out); have O4 := hide hown4; clear hown4 hk4)
            | (refine step_appS (by rfl) (.tmp 24) (.tmp 26) 26 (by rfl) wr.heap.size 9 i1 Tryz.underlying26 ki kz0 kz1 kz2 av3 k cv3 (([] : List Bs) ++ ps.take k) (by rfl) (ownsRow_below O3.out (below_alloc w3 (.cells #[.string (str p)] 9))) (some ⟨w3.heap.size, 0, none⟩) 1 1 [p] (by rfl) rfl (reads_name w3 p) (k + 1) rfl hm1 hm1' (below_next BW3.out (below_alloc w3 (.cells #[.string (str p)] 9))).size ?_; intro av4 cv4 w4 hown4 hk4; have BW4 := hide (apd_step2 (below_next BW3.out (below_alloc w3 (.cells #[.string (str p)] 9))) hk4 O3.out); have O4 := hide hown4; clear hown4 hk4)
            | (refine step_appS (by rfl) (.tmp 27) (.tmp 30) 26 (by rfl) wr.heap.size 9 i1 Tryz.underlying26 ki kz0 kz1 kz2 av4 (k + 1) cv4 ((([] : List Bs) ++ ps.take k) ++ [p]) (by rfl) O4.out (some ⟨g, 0, none⟩) 0 0 (ps.drop k) (by rfl) hdk.out (RD.out _ BW4.out) (ps.length + 1) hN3.out hm2 hm2' BW4.out.size ?_; intro av5 cv5 w5 hown5 hk5; have BW5 := hide (apd_step2 BW4.out hk5 O4.out); have O5 := hide hown5; clear hown5 hk5)))
        all_goals
          go_wp2_with fail
          go_ret
          exact ⟨av5, cv5, by rw [HLen.out]; rfl, by rw [HLen.out]; exact put_own O5.out HPut.out HLen.out, BW5.out⟩
      · have hck2 : ¬ c = k := hck
        have HPut := hide (show putS ps p = ps.take k ++ p :: ps.drop k from by unfold putS; rw [HLk.out])
        have HLen := hide (putS_len ps p)
        have BSA : Hid (Below wr.heap.size wr ((wr.alloc (.cells #[] 9)).drew)) := hide (below_alloc wr _).drew
        have BSB : Hid (Below wr.heap.size wr (((wr.alloc (.cells #[] 9)).alloc (.cells #[.string (str p)] 9)).drew)) := hide (below_next (below_alloc wr _) (below_alloc _ _)).drew
        have BSC : Hid (Below wr.heap.size wr (((wr.alloc (.cells #[.string (str p)] 9)).alloc (.cells #[] 9)).drew)) := hide (below_next (below_alloc wr _) (below_alloc _ _)).drew
        have OA : Hid (((wr.alloc (.cells #[] 9)).drew).ownsRow wr.heap.size 9 1 (.slice (some ⟨wr.heap.size, 0, none⟩) 0 0) 0 (([] : List Bs).map vS)) := hide (made_none wr)
        have OB : Hid ((((wr.alloc (.cells #[] 9)).alloc (.cells #[.string (str p)] 9)).drew).ownsRow wr.heap.size 9 1 (.slice (some ⟨wr.heap.size, 0, none⟩) 0 0) 0 (([] : List Bs).map vS)) := hide (ownsRow_below (made_none wr) (below_alloc _ _).drew)
        have OC : Hid ((((wr.alloc (.cells #[.string (str p)] 9)).alloc (.cells #[] 9)).drew).ownsRow wr.heap.size 9 1 (.slice (some ⟨wr.heap.size + 1, 0, none⟩) 0 0) 0 (([] : List Bs).map vS)) := hide (by have := made_none (wr.alloc (.cells #[.string (str p)] 9)); rw [show (wr.alloc (.cells #[.string (str p)] 9)).heap.size = wr.heap.size + 1 by simp] at this; exact ownsRow_mono this (by omega))
        have RNB : Hid (ReadsS (((wr.alloc (.cells #[] 9)).alloc (.cells #[.string (str p)] 9)).drew) (some ⟨wr.heap.size + 1, 0, none⟩) [p]) := hide (by have := reads_name (wr.alloc (.cells #[] 9)) p; rw [show (wr.alloc (.cells #[] 9)).heap.size = wr.heap.size + 1 by simp] at this; exact this)
        have RNC : Hid (ReadsS (((wr.alloc (.cells #[.string (str p)] 9)).alloc (.cells #[] 9)).drew) (some ⟨wr.heap.size, 0, none⟩) [p]) := hide ((reads_name wr p).below (below_alloc _ _).drew)
        have HNB : Hid (wr.heap.size + 1 ≠ wr.heap.size) := hide (by omega)
        have HNC : Hid (wr.heap.size ≠ wr.heap.size + 1) := hide (by omega)
        have HBA : Hid (wr.heap.size ≤ wr.heap.size) := hide (Nat.le_refl _)
        have HBB : Hid (wr.heap.size ≤ wr.heap.size) := hide (Nat.le_refl _)
        have HBC : Hid (wr.heap.size ≤ wr.heap.size + 1) := hide (by omega)
        have htk : Hid ((ps.take k).length = k) := hide (by rw [List.length_take]; omega)
        have hk00 : Hid (0 + k = k) := hide (by omega)
        have hdk : Hid ((ps.drop k).length = (ps.length - k)) := hide (by rw [List.length_drop])
        have hN3 : Hid (k + 1 + (ps.length - k) = ps.length + 1) := hide (by omega)
        have RTA : Hid (ReadsS ((wr.alloc (.cells #[] 9)).drew) (some ⟨g, 0, none⟩) (ps.take k)) := hide ((HR.out.below BSA.out).take k)
        have RTB : Hid (ReadsS (((wr.alloc (.cells #[] 9)).alloc (.cells #[.string (str p)] 9)).drew) (some ⟨g, 0, none⟩) (ps.take k)) := hide ((HR.out.below BSB.out).take k)
        have RTC : Hid (ReadsS (((wr.alloc (.cells #[.string (str p)] 9)).alloc (.cells #[] 9)).drew) (some ⟨g, 0, none⟩) (ps.take k)) := hide ((HR.out.below BSC.out).take k)
        have RD : Hid (∀ u : World, Below wr.heap.size wr u → ReadsS u (some ⟨g, k, none⟩) (ps.drop k)) := hide (fun u hu => (HR.out.below hu).drop k)
        have hm0 : 0 + k ≤ maxLen := by unfold maxLen; omega
        have hm0' : (0 + k) * 16 ≤ 140737488355328 := by omega
        have hm1 : k + 1 ≤ maxLen := by unfold maxLen; omega
        have hm1' : (k + 1) * 16 ≤ 140737488355328 := by omega
        have hm2 : k + 1 + (ps.length - k) ≤ maxLen := by unfold maxLen; omega
        have hm2' : (k + 1 + (ps.length - k)) * 16 ≤ 140737488355328 := by omega
        go_wp2_with fail
        go_region_law
          ((first
            | (refine step_appS (by rfl) (.tmp 20) (.tmp 23) 26 (by rfl) wr.heap.size 9 i1 Tryz.underlying26 ki kz0 kz1 kz2 (some ⟨wr.heap.size + 1, 0, none⟩) 0 0 [] (by rfl) OC.out (some ⟨g, 0, none⟩) k c (ps.take k) (by rfl) htk.out RTC.out k hk00.out hm0 hm0' BSC.out.size ?_; intro av3 cv3 w3 hown3 hk3; have RN3 := hide (keep_name hk3 HNC.out RNC.out); have BW3 := hide (apd_step BSC.out hk3 HBC.out); have O3 := hide hown3; clear hown3 hk3)
            | (refine step_appS (by rfl) (.tmp 20) (.tmp 23) 26 (by rfl) wr.heap.size 9 i1 Tryz.underlying26 ki kz0 kz1 kz2 (some ⟨wr.heap.size, 0, none⟩) 0 0 [] (by rfl) OB.out (some ⟨g, 0, none⟩) k c (ps.take k) (by rfl) htk.out RTB.out k hk00.out hm0 hm0' BSB.out.size ?_; intro av3 cv3 w3 hown3 hk3; have RN3 := hide (keep_name hk3 HNB.out RNB.out); have BW3 := hide (apd_step BSB.out hk3 HBB.out); have O3 := hide hown3; clear hown3 hk3)
            | (refine step_appS (by rfl) (.tmp 20) (.tmp 23) 26 (by rfl) wr.heap.size 9 i1 Tryz.underlying26 ki kz0 kz1 kz2 (some ⟨wr.heap.size, 0, none⟩) 0 0 [] (by rfl) OA.out (some ⟨g, 0, none⟩) k c (ps.take k) (by rfl) htk.out RTA.out k hk00.out hm0 hm0' BSA.out.size ?_; intro av3 cv3 w3 hown3 hk3; have BW3 := hide (apd_step BSA.out hk3 HBA.out); have O3 := hide hown3; clear hown3 hk3)
            | (refine step_appS (by rfl) (.tmp 24) (.tmp 26) 26 (by rfl) wr.heap.size 9 i1 Tryz.underlying26 ki kz0 kz1 kz2 av3 k cv3 (([] : List Bs) ++ ps.take k) (by rfl) O3.out (some ⟨wr.heap.size, 0, none⟩) 1 1 [p] (by rfl) rfl RN3.out (k + 1) rfl hm1 hm1' BW3.out.size ?_; intro av4 cv4 w4 hown4 hk4; have BW4 := hide (apd_step2 BW3.out hk4 O3.out); have O4 := hide hown4; clear hown4 hk4)
            | (refine step_appS (by rfl) (.tmp 24) (.tmp 26) 26 (by rfl) wr.heap.size 9 i1 Tryz.underlying26 ki kz0 kz1 kz2 av3 k cv3 (([] : List Bs) ++ ps.take k) (by rfl) O3.out (some ⟨wr.heap.size + 1, 0, none⟩) 1 1 [p] (by rfl) rfl RN3.out (k + 1) rfl hm1 hm1' BW3.out.size ?_; intro av4 cv4 w4 hown4 hk4; have BW4 := hide (apd_step2 BW3.out hk4 O3.out); have O4 := hide hown4; clear hown4 hk4)
            | (refine step_appS (by rfl) (.tmp 24) (.tmp 26) 26 (by rfl) wr.heap.size 9 i1 Tryz.underlying26 ki kz0 kz1 kz2 av3 k cv3 (([] : List Bs) ++ ps.take k) (by rfl) (ownsRow_below O3.out (below_alloc w3 (.cells #[.string (str p)] 9))) (some ⟨w3.heap.size, 0, none⟩) 1 1 [p] (by rfl) rfl (reads_name w3 p) (k + 1) rfl hm1 hm1' (below_next BW3.out (below_alloc w3 (.cells #[.string (str p)] 9))).size ?_; intro av4 cv4 w4 hown4 hk4; have BW4 := hide (apd_step2 (below_next BW3.out (below_alloc w3 (.cells #[.string (str p)] 9))) hk4 O3.out); have O4 := hide hown4; clear hown4 hk4)
            | (refine step_appS (by rfl) (.tmp 27) (.tmp 30) 26 (by rfl) wr.heap.size 9 i1 Tryz.underlying26 ki kz0 kz1 kz2 av4 (k + 1) cv4 ((([] : List Bs) ++ ps.take k) ++ [p]) (by rfl) O4.out (some ⟨g, k, none⟩) (ps.length - k) (c - k) (ps.drop k) (by rfl) hdk.out (RD.out _ BW4.out) (ps.length + 1) hN3.out hm2 hm2' BW4.out.size ?_; intro av5 cv5 w5 hown5 hk5; have BW5 := hide (apd_step2 BW4.out hk5 O4.out); have O5 := hide hown5; clear hown5 hk5)))
        all_goals
          go_wp2_with fail
          go_ret
          exact ⟨av5, cv5, by rw [HLen.out]; rfl, by rw [HLen.out]; exact put_own O5.out HPut.out HLen.out, BW5.out⟩
set_option maxRecDepth 100000 in
set_option maxHeartbeats 12800000 in
theorem l8Put_nil (p : Bs) (w : World) :
    Calls Tryz.prog 32 #[.slice none 0 0, .string (str p)] w fun r w' => ∃ av cv, r = .returned (.slice av (putS [] p).length cv) ∧ OwnS w.heap.size w' (.slice av (putS [] p).length cv) (putS [] p) ∧ Below w.heap.size w w' := by
  obtain ⟨i1, ki, kz0, kz1, kz2⟩ := info_parts infoS
  obtain ⟨ps, hps⟩ : ∃ ps : List Bs, ps = [] := ⟨_, rfl⟩
  obtain ⟨k, hk⟩ : ∃ k : Nat, k = 0 := ⟨_, rfl⟩
  rw [← hps]
  have hpl : ps.length = 0 := by rw [hps]; rfl
  have HLk := hide (show lowS ps p = k from by rw [hps, hk]; rfl)
  have HR := hide (show ReadsS w none ps from by rw [hps]; exact ReadsS.nil _ _)
  clear hps
  have HPut := hide (show putS ps p = ps.take k ++ p :: ps.drop k from by unfold putS; rw [HLk.out])
  have HLen := hide (putS_len ps p)
  have BSA : Hid (Below w.heap.size w ((w.alloc (.cells #[] 9)).drew)) := hide (below_alloc w _).drew
  have BSB : Hid (Below w.heap.size w (((w.alloc (.cells #[] 9)).alloc (.cells #[.string (str p)] 9)).drew)) := hide (below_next (below_alloc w _) (below_alloc _ _)).drew
  have BSC : Hid (Below w.heap.size w (((w.alloc (.cells #[.string (str p)] 9)).alloc (.cells #[] 9)).drew)) := hide (below_next (below_alloc w _) (below_alloc _ _)).drew
  have OA : Hid (((w.alloc (.cells #[] 9)).drew).ownsRow w.heap.size 9 1 (.slice (some ⟨w.heap.size, 0, none⟩) 0 0) 0 (([] : List Bs).map vS)) := hide (made_none w)
  have OB : Hid ((((w.alloc (.cells #[] 9)).alloc (.cells #[.string (str p)] 9)).drew).ownsRow w.heap.size 9 1 (.slice (some ⟨w.heap.size, 0, none⟩) 0 0) 0 (([] : List Bs).map vS)) := hide (ownsRow_below (made_none w) (below_alloc _ _).drew)
  have OC : Hid ((((w.alloc (.cells #[.string (str p)] 9)).alloc (.cells #[] 9)).drew).ownsRow w.heap.size 9 1 (.slice (some ⟨w.heap.size + 1, 0, none⟩) 0 0) 0 (([] : List Bs).map vS)) := hide (by have := made_none (w.alloc (.cells #[.string (str p)] 9)); rw [show (w.alloc (.cells #[.string (str p)] 9)).heap.size = w.heap.size + 1 by simp] at this; exact ownsRow_mono this (by omega))
  have RNB : Hid (ReadsS (((w.alloc (.cells #[] 9)).alloc (.cells #[.string (str p)] 9)).drew) (some ⟨w.heap.size + 1, 0, none⟩) [p]) := hide (by have := reads_name (w.alloc (.cells #[] 9)) p; rw [show (w.alloc (.cells #[] 9)).heap.size = w.heap.size + 1 by simp] at this; exact this)
  have RNC : Hid (ReadsS (((w.alloc (.cells #[.string (str p)] 9)).alloc (.cells #[] 9)).drew) (some ⟨w.heap.size, 0, none⟩) [p]) := hide ((reads_name w p).below (below_alloc _ _).drew)
  have HNB : Hid (w.heap.size + 1 ≠ w.heap.size) := hide (by omega)
  have HNC : Hid (w.heap.size ≠ w.heap.size + 1) := hide (by omega)
  have HBA : Hid (w.heap.size ≤ w.heap.size) := hide (Nat.le_refl _)
  have HBB : Hid (w.heap.size ≤ w.heap.size) := hide (Nat.le_refl _)
  have HBC : Hid (w.heap.size ≤ w.heap.size + 1) := hide (by omega)
  have htk : Hid ((ps.take k).length = 0) := hide (by rw [List.length_take]; omega)
  have hk00 : Hid (0 + 0 = 0) := hide (by omega)
  have hdk : Hid ((ps.drop k).length = 0) := hide (by rw [List.length_drop]; omega)
  have hN3 : Hid (0 + 1 + 0 = ps.length + 1) := hide (by omega)
  have RTA : Hid (ReadsS ((w.alloc (.cells #[] 9)).drew) none (ps.take k)) := hide ((HR.out.below BSA.out).take k)
  have RTB : Hid (ReadsS (((w.alloc (.cells #[] 9)).alloc (.cells #[.string (str p)] 9)).drew) none (ps.take k)) := hide ((HR.out.below BSB.out).take k)
  have RTC : Hid (ReadsS (((w.alloc (.cells #[.string (str p)] 9)).alloc (.cells #[] 9)).drew) none (ps.take k)) := hide ((HR.out.below BSC.out).take k)
  have RD : Hid (∀ u : World, Below w.heap.size w u → ReadsS u none (ps.drop k)) := hide (fun u hu => by rw [List.drop_eq_nil_of_le (by omega)]; exact ReadsS.nil _ _)
  have hm0 : 0 + 0 ≤ maxLen := by unfold maxLen; omega
  have hm0' : (0 + 0) * 16 ≤ 140737488355328 := by omega
  have hm1 : 0 + 1 ≤ maxLen := by unfold maxLen; omega
  have hm1' : (0 + 1) * 16 ≤ 140737488355328 := by omega
  have hm2 : 0 + 1 + 0 ≤ maxLen := by unfold maxLen; omega
  have hm2' : (0 + 1 + 0) * 16 ≤ 140737488355328 := by omega
  rw [hk] at *
  clear hk hpl
  go_enter Tryz.func32, Tryz.ntmps32
  go_wp2_with fail
  go_loopw [5] (fun i w9 => i = .int .i64 0 ∧ w9 = w) (fun _ _ => 0)
  case atStart => exact ⟨rfl, rfl⟩
  case round =>
    obtain ⟨rfl, hw9⟩ := hrel
    subst hw9
    go_wp2_with fail
    go_region_law
      ((first
        | (refine step_appS (by rfl) (.tmp 20) (.tmp 23) 26 (by rfl) wr.heap.size 9 i1 Tryz.underlying26 ki kz0 kz1 kz2 (some ⟨wr.heap.size + 1, 0, none⟩) 0 0 [] (by rfl) OC.out none 0 0 (ps.take 0) (by rfl) htk.out RTC.out 0 rfl hm0 hm0' BSC.out.size ?_; intro av3 cv3 w3 hown3 hk3; have RN3 := hide (keep_name hk3 HNC.out RNC.out); have BW3 := hide (apd_step BSC.out hk3 HBC.out); have O3 := hide hown3; clear hown3 hk3)
        | (refine step_appS (by rfl) (.tmp 20) (.tmp 23) 26 (by rfl) wr.heap.size 9 i1 Tryz.underlying26 ki kz0 kz1 kz2 (some ⟨wr.heap.size, 0, none⟩) 0 0 [] (by rfl) OB.out none 0 0 (ps.take 0) (by rfl) htk.out RTB.out 0 rfl hm0 hm0' BSB.out.size ?_; intro av3 cv3 w3 hown3 hk3; have RN3 := hide (keep_name hk3 HNB.out RNB.out); have BW3 := hide (apd_step BSB.out hk3 HBB.out); have O3 := hide hown3; clear hown3 hk3)
        | (refine step_appS (by rfl) (.tmp 20) (.tmp 23) 26 (by rfl) wr.heap.size 9 i1 Tryz.underlying26 ki kz0 kz1 kz2 (some ⟨wr.heap.size, 0, none⟩) 0 0 [] (by rfl) OA.out none 0 0 (ps.take 0) (by rfl) htk.out RTA.out 0 rfl hm0 hm0' BSA.out.size ?_; intro av3 cv3 w3 hown3 hk3; have BW3 := hide (apd_step BSA.out hk3 HBA.out); have O3 := hide hown3; clear hown3 hk3)
        | (refine step_appS (by rfl) (.tmp 24) (.tmp 26) 26 (by rfl) wr.heap.size 9 i1 Tryz.underlying26 ki kz0 kz1 kz2 av3 0 cv3 (([] : List Bs) ++ ps.take 0) (by rfl) O3.out (some ⟨wr.heap.size, 0, none⟩) 1 1 [p] (by rfl) rfl RN3.out (0 + 1) rfl hm1 hm1' BW3.out.size ?_; intro av4 cv4 w4 hown4 hk4; have BW4 := hide (apd_step2 BW3.out hk4 O3.out); have O4 := hide hown4; clear hown4 hk4)
        | (refine step_appS (by rfl) (.tmp 24) (.tmp 26) 26 (by rfl) wr.heap.size 9 i1 Tryz.underlying26 ki kz0 kz1 kz2 av3 0 cv3 (([] : List Bs) ++ ps.take 0) (by rfl) O3.out (some ⟨wr.heap.size + 1, 0, none⟩) 1 1 [p] (by rfl) rfl RN3.out (0 + 1) rfl hm1 hm1' BW3.out.size ?_; intro av4 cv4 w4 hown4 hk4; have BW4 := hide (apd_step2 BW3.out hk4 O3.out); have O4 := hide hown4; clear hown4 hk4)
        | (refine step_appS (by rfl) (.tmp 24) (.tmp 26) 26 (by rfl) wr.heap.size 9 i1 Tryz.underlying26 ki kz0 kz1 kz2 av3 0 cv3 (([] : List Bs) ++ ps.take 0) (by rfl) (ownsRow_below O3.out (below_alloc w3 (.cells #[.string (str p)] 9))) (some ⟨w3.heap.size, 0, none⟩) 1 1 [p] (by rfl) rfl (reads_name w3 p) (0 + 1) rfl hm1 hm1' (below_next BW3.out (below_alloc w3 (.cells #[.string (str p)] 9))).size ?_; intro av4 cv4 w4 hown4 hk4; have BW4 := hide (apd_step2 (below_next BW3.out (below_alloc w3 (.cells #[.string (str p)] 9))) hk4 O3.out); have O4 := hide hown4; clear hown4 hk4)
        | (refine step_appS (by rfl) (.tmp 27) (.tmp 30) 26 (by rfl) wr.heap.size 9 i1 Tryz.underlying26 ki kz0 kz1 kz2 av4 (0 + 1) cv4 ((([] : List Bs) ++ ps.take 0) ++ [p]) (by rfl) O4.out none 0 0 (ps.drop 0) (by rfl) hdk.out (RD.out _ BW4.out) (ps.length + 1) hN3.out hm2 hm2' BW4.out.size ?_; intro av5 cv5 w5 hown5 hk5; have BW5 := hide (apd_step2 BW4.out hk5 O4.out); have O5 := hide hown5; clear hown5 hk5)))
    all_goals
      go_wp2_with fail
      go_ret
      exact ⟨av5, cv5, by rw [HLen.out]; rfl, by rw [HLen.out]; exact put_own O5.out HPut.out HLen.out, BW5.out⟩
theorem l8Put_any (a : Option Addr) (c n : Nat) (ps : List Bs) (p : Bs) (w : World) {B : Nat} (h : OwnS B w (.slice a n c) ps) (hn : n = ps.length) (hl : ps.length ≤ 1048576) :
    Calls Tryz.prog 32 #[.slice a n c, .string (str p)] w fun r w' => ∃ av cv, r = .returned (.slice av (putS ps p).length cv) ∧ OwnS w.heap.size w' (.slice av (putS ps p).length cv) (putS ps p) ∧ Below w.heap.size w w' := by
  subst hn
  have hr := h.reads
  have hc := h.cap rfl
  rcases h.2 with ⟨h', hh⟩ | ⟨g, cap, cur, h', -⟩
  · simp only [Value.slice.injEq] at h'
    obtain ⟨rfl, h0, rfl⟩ := h'
    obtain rfl : ps = [] := List.eq_nil_of_length_eq_zero h0
    exact l8Put_nil p w
  · simp only [Value.slice.injEq, true_and] at h'
    obtain ⟨rfl, rfl⟩ := h'
    exact l8Put_some g c ps p w hr hc hl
end Go.Proofs.YtjkmbicedbdifaaGreat

namespace Go.Proofs.YtjkmbicedbdifaaGreat
open Go.RowKit Go.Shelf
set_option linter.unusedVariables false
def Tryz.cloneA_ren : Go.Shelf.Ren := ⟨fun | 316 => 66 | n => n, fun | 9 => 9 | 3 => 3 | 4 => 4 | 37 => 22 | 0 => 0 | 127 => 133 | 5 => 5 | n => n, fun | n => n⟩
theorem Tryz.cloneA : Go.Proofs.LaysM.n316 Tryz.prog Tryz.cloneA_ren := {
  mixed := by kernel_rfl
  f316 := Tryz.func66.trans (congrArg some (by kernel_rfl))
  t0 := Tryz.underlying0
  a0 := Tryz.isAgg0
  z0 := Tryz.sizeOf0
  v0 := Tryz.zeroValue0
  t3 := Tryz.underlying3
  a3 := Tryz.isAgg3
  z3 := Tryz.sizeOf3
  v3 := Tryz.zeroValue3
  t4 := Tryz.underlying4
  a4 := Tryz.isAgg4
  z4 := Tryz.sizeOf4
  v4 := Tryz.zeroValue4
  t9 := Tryz.underlying9
  a9 := Tryz.isAgg9
  z9 := Tryz.sizeOf9
  v9 := Tryz.zeroValue9
  t37 := Tryz.underlying22
  a37 := Tryz.isAgg22
  z37 := Tryz.sizeOf22
  v37 := Tryz.zeroValue22
  t127 := Tryz.underlying133
  a127 := Tryz.isAgg133
  z127 := Tryz.sizeOf133
  v127 := Tryz.zeroValue133
  t5 := Tryz.underlying5
  a5 := Tryz.isAgg5
  z5 := Tryz.sizeOf5
  v5 := Tryz.zeroValue5
  i0 := by kernel_rfl
  i3 := by kernel_rfl
  i4 := by kernel_rfl
  i5 := by kernel_rfl
  i9 := by kernel_rfl
  i37 := by kernel_rfl
  i127 := by kernel_rfl }
def Tryz.hasA_ren : Go.Shelf.Ren := ⟨fun | 110 => 176 | 109 => 183 | n => n, fun | 31 => 26 | 9 => 9 | 4 => 4 | 3 => 3 | 0 => 0 | n => n, fun | n => n⟩
theorem Tryz.hasA : Go.Proofs.Lays.n110 Tryz.prog Tryz.hasA_ren := {
  mixed := by kernel_rfl
  f109 := Tryz.func183.trans (congrArg some (by kernel_rfl))
  f110 := Tryz.func176.trans (congrArg some (by kernel_rfl))
  t0 := Tryz.underlying0
  a0 := Tryz.isAgg0
  z0 := Tryz.sizeOf0
  v0 := Tryz.zeroValue0
  t3 := Tryz.underlying3
  a3 := Tryz.isAgg3
  z3 := Tryz.sizeOf3
  v3 := Tryz.zeroValue3
  t4 := Tryz.underlying4
  a4 := Tryz.isAgg4
  z4 := Tryz.sizeOf4
  v4 := Tryz.zeroValue4
  t9 := Tryz.underlying9
  a9 := Tryz.isAgg9
  z9 := Tryz.sizeOf9
  v9 := Tryz.zeroValue9
  t31 := Tryz.underlying26
  a31 := Tryz.isAgg26
  z31 := Tryz.sizeOf26
  v31 := Tryz.zeroValue26 }
def Tryz.indexA_ren : Go.Shelf.Ren := ⟨fun | 219 => 168 | 217 => 177 | 225 => 178 | 224 => 179 | 267 => 180 | 266 => 184 | 314 => 185 | n => n, fun | 9 => 9 | 3 => 3 | 4 => 4 | 5 => 5 | 46 => 160 | 146 => 197 | 51 => 177 | n => n, fun | 1 => 0 | n => n⟩
theorem Tryz.indexA : Go.Proofs.Lays.n219 Tryz.prog Tryz.indexA_ren := {
  mixed := by kernel_rfl
  f217 := Tryz.func177.trans (congrArg some (by kernel_rfl))
  f219 := Tryz.func168.trans (congrArg some (by kernel_rfl))
  f224 := Tryz.func179.trans (congrArg some (by kernel_rfl))
  f225 := Tryz.func178.trans (congrArg some (by kernel_rfl))
  f266 := Tryz.func184.trans (congrArg some (by kernel_rfl))
  f267 := Tryz.func180.trans (congrArg some (by kernel_rfl))
  f314 := Tryz.func185.trans (congrArg some (by kernel_rfl))
  t3 := Tryz.underlying3
  a3 := Tryz.isAgg3
  z3 := Tryz.sizeOf3
  v3 := Tryz.zeroValue3
  t4 := Tryz.underlying4
  a4 := Tryz.isAgg4
  z4 := Tryz.sizeOf4
  v4 := Tryz.zeroValue4
  t5 := Tryz.underlying5
  a5 := Tryz.isAgg5
  z5 := Tryz.sizeOf5
  v5 := Tryz.zeroValue5
  t9 := Tryz.underlying9
  a9 := Tryz.isAgg9
  z9 := Tryz.sizeOf9
  v9 := Tryz.zeroValue9
  t46 := Tryz.underlying160
  a46 := Tryz.isAgg160
  z46 := Tryz.sizeOf160
  v46 := Tryz.zeroValue160
  t51 := Tryz.underlying177
  a51 := Tryz.isAgg177
  z51 := Tryz.sizeOf177
  v51 := Tryz.zeroValue177
  t146 := Tryz.underlying197
  a146 := Tryz.isAgg197
  z146 := Tryz.sizeOf197
  v146 := Tryz.zeroValue197
  g1 := by kernel_rfl }
def Tryz.prefixA_ren : Go.Shelf.Ren := ⟨fun | 103 => 115 | 210 => 148 | 206 => 167 | n => n, fun | 9 => 9 | 4 => 4 | 24 => 144 | 3 => 3 | n => n, fun | n => n⟩
theorem Tryz.prefixA : Go.Proofs.Lays.n103 Tryz.prog Tryz.prefixA_ren := {
  mixed := by kernel_rfl
  f103 := Tryz.func115.trans (congrArg some (by kernel_rfl))
  f206 := Tryz.func167.trans (congrArg some (by kernel_rfl))
  f210 := Tryz.func148.trans (congrArg some (by kernel_rfl))
  t3 := Tryz.underlying3
  a3 := Tryz.isAgg3
  z3 := Tryz.sizeOf3
  v3 := Tryz.zeroValue3
  t4 := Tryz.underlying4
  a4 := Tryz.isAgg4
  z4 := Tryz.sizeOf4
  v4 := Tryz.zeroValue4
  t9 := Tryz.underlying9
  a9 := Tryz.isAgg9
  z9 := Tryz.sizeOf9
  v9 := Tryz.zeroValue9
  t24 := Tryz.underlying144
  a24 := Tryz.isAgg144
  z24 := Tryz.sizeOf144
  v24 := Tryz.zeroValue144 }
end Go.Proofs.YtjkmbicedbdifaaGreat

namespace Go.Proofs.YtjkmbicedbdifaaGreat
open Go.RowKit
set_option linter.unusedVariables false

theorem indexOne_any (s : ByteArray) (w : World) :
    Calls Tryz.prog 168 #[.string s, .string ⟨#[47]⟩] w fun e w' => e = .returned (.int .i64 (Lib.indexByte s.data.toList 47)) ∧ w' = w :=
  Any.stringslite_Index_one Tryz.indexA s 47 w

theorem index_miss {l : Bs} (h : (47 : UInt8) ∉ l) : Lib.indexByte l 47 = -1 := by
  induction l with
  | nil => rfl
  | cons c l ih =>
    have h1 : ¬ c = 47 := fun e => h (by simp [e])
    have h2 : (47 : UInt8) ∉ l := fun e => h (by simp [e])
    simp [Lib.indexByte, h1, ih h2]
theorem index_hit {a : Bs} (b : Bs) (h : (47 : UInt8) ∉ a) : Lib.indexByte (a ++ 47 :: b) 47 = a.length := by
  induction a with
  | nil => simp [Lib.indexByte]
  | cons c a ih =>
    have h1 : ¬ c = 47 := fun e => h (by simp [e])
    have h2 : (47 : UInt8) ∉ a := fun e => h (by simp [e])
    have ih := ih h2
    simp only [List.cons_append, Lib.indexByte, ih]
    have : ((a.length : Int) == -1) = false := by simp
    simp [h1, this]

set_option maxRecDepth 100000 in
set_option maxHeartbeats 800000 in
theorem cutLite_miss (l : Bs) (w : World) (h : (47 : UInt8) ∉ l) :
    Calls Tryz.prog 151 #[.string (str l), .string ⟨#[47]⟩] w fun e w' => e = .returned (.tuple #[.string (str l), .string ⟨#[]⟩, .bool false]) ∧ ∃ n, w' = w.drewN n := by
  have HI := hide (index_miss h)
  go_enter Tryz.func151, Tryz.ntmps151
  go_wp2_with (go_at_call 168; refine (indexOne_any _ _).mono ?_; rintro e w' ⟨rfl, rfl⟩; rw [str_data, HI.out])
  go_ret3
  exact ⟨rfl, 0, rfl⟩
theorem cut_miss (l : Bs) (w : World) (h : (47 : UInt8) ∉ l) :
    Calls Tryz.prog 124 #[.string (str l), .string ⟨#[47]⟩] w fun e w' => e = .returned (.tuple #[.string (str l), .string ⟨#[]⟩, .bool false]) ∧ ∃ n, w' = w.drewN n := by
  go_enter Tryz.func124, Tryz.ntmps124
  go_wp2_with (go_at_call 151; refine (cutLite_miss _ _ h).mono ?_; rintro e w' ⟨rfl, n, rfl⟩)
  go_ret3
  exact ⟨rfl, n, rfl⟩
set_option maxRecDepth 100000 in
set_option maxHeartbeats 800000 in
theorem cutLite_hit (a b : Bs) (w : World) (h : (47 : UInt8) ∉ a) (hl : a.length ≤ 9223372036854775806) :
    Calls Tryz.prog 151 #[.string (str (a ++ 47 :: b)), .string ⟨#[47]⟩] w fun e w' => e = .returned (.tuple #[.string (str a), .string (str b), .bool true]) ∧ ∃ n, w' = w.drewN n := by
  have HI := hide (index_hit b h)
  have c0 : (0 : Int) ≤ a.length := by omega
  have c1 : (a.length : Int) ≤ ((str (a ++ 47 :: b)).size : Int) := by rw [str_size]; simp; omega
  have c2 : (a.length : Int) + 1 ≤ ((str (a ++ 47 :: b)).size : Int) := by rw [str_size]; simp; omega
  have HA := hide (show (str (a ++ 47 :: b)).extract 0 a.length = str a by rw [Lib.extract_eq, str_data]; simp [str])
  have HB := hide (show (str (a ++ 47 :: b)).extract (a.length + 1) (str (a ++ 47 :: b)).size = str b by rw [Lib.extract_eq, str_data, str_size, show (a ++ 47 :: b).drop (a.length + 1) = b by simp, List.take_of_length_le (by simp; omega)]; rfl)
  have hm : (a.length : Int) ≤ 9223372036854775806 := by omega
  generalize hx : str (a ++ 47 :: b) = x at *
  have HX := hide hx
  clear hx
  go_enter Tryz.func151, Tryz.ntmps151
  go_wp2_with (go_at_call 168; refine (indexOne_any _ _).mono ?_; rintro e w' ⟨rfl, rfl⟩; rw [← HX.out, str_data, HI.out, HX.out])
  go_region
  go_wp2
  go_ret3
  exact ⟨by rw [HA.out, HB.out]; rfl, 1, rfl⟩
theorem cut_hit (a b : Bs) (w : World) (h : (47 : UInt8) ∉ a) (hl : a.length ≤ 9223372036854775806) :
    Calls Tryz.prog 124 #[.string (str (a ++ 47 :: b)), .string ⟨#[47]⟩] w fun e w' => e = .returned (.tuple #[.string (str a), .string (str b), .bool true]) ∧ ∃ n, w' = w.drewN n := by
  go_enter Tryz.func124, Tryz.ntmps124
  go_wp2_with (go_at_call 151; refine (cutLite_hit _ _ _ h hl).mono ?_; rintro e w' ⟨rfl, n, rfl⟩)
  go_ret3
  exact ⟨rfl, n, rfl⟩

theorem prefix_yes {l r : Bs} (h : l = 47 :: r) : Lib.hasPrefix l [47] = true ∧ Lib.trimPrefix l [47] = r := by
  subst h
  have e : Lib.hasPrefix (47 :: r) [47] = true := by simp [Lib.hasPrefix]
  exact ⟨e, by simp [Lib.trimPrefix, e]⟩
theorem prefix_no {l : Bs} (h : ∀ r, l ≠ 47 :: r) : Lib.hasPrefix l [47] = false := by
  cases l with
  | nil => rfl
  | cons c r =>
    have hc : c ≠ 47 := fun e => h r (by rw [e])
    have : ((47 : UInt8) == c) = false := by simpa using Ne.symm hc
    simp only [Lib.hasPrefix, List.isPrefixOf, this, Bool.false_and]

theorem cutPrefix_yes (s : ByteArray) (r : Bs) (w : World) (h : s.data.toList = 47 :: r) :
    Calls Tryz.prog 115 #[.string s, .string ⟨#[47]⟩] w fun e w' => e = .returned (.tuple #[.string (str r), .bool true]) ∧ w' = w := by
  have := Any.strings_CutPrefix Tryz.prefixA s ⟨#[47]⟩ w
  have e1 := (prefix_yes h).1
  have e2 := (prefix_yes h).2
  simp only [e1, e2] at this
  exact this
theorem cutPrefix_no (s : ByteArray) (w : World) (h : ∀ r, s.data.toList ≠ 47 :: r) :
    Calls Tryz.prog 115 #[.string s, .string ⟨#[47]⟩] w fun e w' => (∃ x, e = .returned (.tuple #[.string x, .bool false])) ∧ w' = w := by
  have := Any.strings_CutPrefix Tryz.prefixA s ⟨#[47]⟩ w
  have e1 := prefix_no h
  simp only [e1] at this
  exact this.mono fun e w' ⟨h1, h2⟩ => ⟨⟨_, h1⟩, h2⟩

theorem join_tail : ∀ (r : List Bs), Lib.joinTail [47] r = joinB r
  | [] => rfl
  | n :: r => by
    have ih := join_tail r
    simp only [Lib.joinTail, List.map_cons, List.flatten_cons, List.cons_append, List.nil_append, joinB] at ih ⊢
    rw [ih]
theorem join_lib {ps : List Bs} (h : ps ≠ []) : joinB ps = 47 :: Lib.join ps [47] := by
  cases ps with
  | nil => exact absurd rfl h
  | cons n r => rw [Lib.join_cons, join_tail]; rfl
theorem join_ge : ∀ (ps : List Bs), ps.length ≤ (joinB ps).length
  | [] => by simp
  | p :: ps => by have := join_ge ps; simp [joinB]; omega
theorem map_str (ps : List Bs) : (ps.map str).map (fun x => x.data.toList) = ps := by
  rw [List.map_map]
  conv => rhs; rw [← List.map_id ps]
  apply List.map_congr_left
  intro p _
  exact str_data p


theorem clone_str (s : ByteArray) (w : World) (hl : s.size ≤ 281474976710656) :
    Calls Tryz.prog 27 #[.string s] w fun e w' => e = .returned (.string s) ∧ Below w.heap.size w w' := by
  have H := hide (fun w => Any.stringslite_Clone Tryz.cloneA s w hl)
  go_enter Tryz.func27, Tryz.ntmps27
  go_wp2_with fail
  refine (H.out _).mono ?_
  rintro e w1 ⟨rfl, hb1⟩
  go_wp2_with fail
  go_ret
  exact ⟨rfl, hb1⟩

theorem has_any (a : Option Addr) (c : Nat) (ps : List Bs) (x : ByteArray) (w : World) (h : ReadsS w a ps) (hn : ps.length ≤ 9223372036854775807) (n : Nat) (hpn : n = ps.length) :
    Calls Tryz.prog 176 #[.slice a n c, .string x] w fun e w' => e = .returned (.bool (decide (x.data.toList ∈ ps))) ∧ w' = w := by
  by_cases h0 : ps = []
  · subst h0
    subst hpn
    exact Any.slices_Contains_string_empty Tryz.hasA a c x w
  · obtain ⟨b, off, rfl, hb, hcell⟩ := h h0
    have := Any.slices_Contains_string Tryz.hasA b off n c (ps.map str) x w (by simp; omega) (by omega)
      (fun j hj => by
        have hj' : j < ps.length := by simpa using hj
        rw [hcell j hj']
        simp [List.getD_eq_getElem?_getD, hj'])
    have e : Lib.containsS ((ps.map str).take n) x = decide (x.data.toList ∈ ps) := by
      rw [List.take_of_length_le (by simp; omega), Bool.eq_iff_iff, Lib.containsS_iff]
      simp only [List.mem_map, decide_eq_true_eq]
      constructor
      · rintro ⟨p, hp, rfl⟩; rw [str_data]; exact hp
      · intro hp; exact ⟨_, hp, str_of x⟩
    rw [e] at this
    exact this

end Go.Proofs.YtjkmbicedbdifaaGreat

namespace Go.Proofs.YtjkmbicedbdifaaGreat
open Go.RowKit Go.Shelf
set_option linter.unusedVariables false
attribute [local go_sem] Oper.semAt_some

/-- A piece: a text of a bounded length. -/
abbrev Pc := { p : Bs // p.length ≤ 2097152 }
def pcs (ps : List Pc) : List Bs := ps.map Subtype.val
theorem pcs_snoc (ps : List Pc) (x : Pc) : pcs (ps ++ [x]) = pcs ps ++ [x.1] := by simp [pcs]
theorem pcs_length (ps : List Pc) : (pcs ps).length = ps.length := by simp [pcs]

def szOf : Value → Nat
  | .string s => s.size
  | _ => 0
def bitOf : Value → Nat
  | .bool true => 1
  | _ => 0
theorem grown_drewN (w : World) (n : Nat) : w.grownBy (w.drewN n) none := ⟨rfl, rfl, rfl, Nat.le_refl _, fun _ _ _ => rfl⟩

theorem cut_cases (r : Bs) : (47 : UInt8) ∉ r ∨ ∃ a b, r = a ++ 47 :: b ∧ (47 : UInt8) ∉ a := by
  induction r with
  | nil => exact .inl (by simp)
  | cons c r ih =>
    by_cases hc : c = 47
    · exact .inr ⟨[], r, by simp [hc], by simp⟩
    · rcases ih with h | ⟨a, b, h, ha⟩
      · exact .inl (by simp [h, Ne.symm hc])
      · exact .inr ⟨c :: a, b, by simp [h], by simp [ha, Ne.symm hc]⟩

set_option maxRecDepth 100000 in
set_option maxHeartbeats 2000000 in
/-- The closure: for every loop body that keeps what lay below n₀. -/
theorem pieces1_in (n : Nat) (l Bn n₀ : Nat) (t : Bs) (ht : t.length ≤ 2097152) (J Jx : List Pc → World → Prop) (B : Nat) (hJ : AbidesFrom B J)
    (hY : ∀ (pre : List Pc) (x : Pc) W, J pre W → pre.length < (cutB t).length → YieldAt Fence.wide (n - 1) Tryz.prog l #[.string (str x.1)] W fun e W' =>
      (e = .returned (.bool true) ∧ J (pre ++ [x]) W' ∧ Below n₀ W W') ∨ (e = .returned (.bool false) ∧ Jx (pre ++ [x]) W'))
    (W : World) (hBn : W.cell? ⟨Bn, 0, none⟩ = some (.string (str t))) (h0 : J [] W) :
    CallsIn Fence.wide n Tryz.prog 123 #[.func (.yield l) #[] #[], .pointer (some ⟨Bn, 0, none⟩)] W fun e W' => (∃ v, e = .returned v) ∧
      ((∃ ys, pcs ys = cutB t ∧ J ys W') ∨ (∃ pre, pcs pre <+: cutB t ∧ Jx pre W')) := by
  refine callsIn_of_wp Tryz.func123 rfl trivial ?_ rfl
  simp only [Tryz.ntmps123, List.size_toArray, List.length_cons, List.length_nil, Nat.reduceAdd, Nat.reduceSub, Array.replicate_succ, Array.replicate_zero, List.push_toArray, List.append_toArray, List.nil_append, List.cons_append]
  gi_wp2
  gi_loopw [3, 4] (fun r m wr => ∃ (pre : List Pc) (q : Bs) (more : Bool), r = .string (str q) ∧ m = .bool more ∧ q.length ≤ 2097152 ∧ Hid (cutB t = pcs pre ++ (if more then cutB q else [])) ∧ Hid (J pre wr)) (fun r m _ => bitOf m * (szOf r + 1))
  case atStart => exact ⟨[], t, true, rfl, rfl, ht, hide rfl, hide h0⟩
  case round =>
    obtain ⟨pre, q, more, rfl, rfl, hq, HC, HJ⟩ := hrel
    cases more with
    | false =>
      gi_wp2
      go_end0
      exact ⟨⟨_, rfl⟩, .inl ⟨pre, by have := HC.out; simpa using this.symm, HJ.out⟩⟩
    | true =>
      have HC' := hide (show cutB t = pcs pre ++ cutB q from HC.out)
      rcases cut_cases q with hm | ⟨a, b, hqe, ha⟩
      · have HE := hide (cutB_miss hm)
        have hlen : pre.length < (cutB t).length := by rw [HC'.out, HE.out]; simp [pcs]
        gi_wp2_with fail
        refine ⟨trivial, fun h => (by cases h), ?_⟩
        refine (callsIn_wide.2 (cut_miss q _ hm)).mono ?_
        rintro e w' ⟨rfl, k, rfl⟩
        obtain ⟨fn, tmps, assign, body, hy, hR⟩ := hY pre ⟨q, hq⟩ (wr.drewN k) (hJ _ _ _ none HJ.out (grown_drewN _ _) (fun r e => by cases e)) hlen
        dsimp only at hy
        gi_wp2_with fail
        refine ⟨fun h => (by cases h), hR.mono ?_⟩
        clear hR hy
        rintro e W3 (⟨rfl, hJ3, hk3⟩ | ⟨rfl, hJx3⟩)
        · have H3 := hide hJ3
          clear hJ3 hk3
          gi_wp2_with fail
          go_roundw
          case rel => exact ⟨pre ++ [⟨q, hq⟩], [], false, rfl, rfl, by simp, hide (by rw [HC'.out, HE.out, pcs_snoc]; simp), H3⟩
          case measure => simp [bitOf]
        · have H3 := hide hJx3
          clear hJx3
          gi_wp2_with fail
          refine bodyPost_ret (results_none rfl _ _ _) rfl ?_
          exact ⟨⟨_, rfl⟩, .inr ⟨pre ++ [⟨q, hq⟩], ⟨[], by rw [HC'.out, HE.out, pcs_snoc]; simp⟩, H3.out⟩⟩
      · have hql : q.length = a.length + (b.length + 1) := by rw [hqe]; simp
        have hal : a.length ≤ 2097152 := by omega
        have HE := hide (show cutB q = a :: cutB b by rw [hqe]; exact cutB_hit b ha)
        have hlen : pre.length < (cutB t).length := by rw [HC'.out, HE.out]; simp [pcs]
        have HQ := hide (cut_hit a b wr ha (by omega))
        rw [← hqe] at HQ
        have hbl : b.length < q.length := by omega
        clear hqe hql
        gi_wp2_with fail
        refine ⟨trivial, fun h => (by cases h), ?_⟩
        refine (callsIn_wide.2 HQ.out).mono ?_
        rintro e w' ⟨rfl, k, rfl⟩
        obtain ⟨fn, tmps, assign, body, hy, hR⟩ := hY pre ⟨a, hal⟩ (wr.drewN k) (hJ _ _ _ none HJ.out (grown_drewN _ _) (fun r e => by cases e)) hlen
        dsimp only at hy
        gi_wp2_with fail
        refine ⟨fun h => (by cases h), hR.mono ?_⟩
        clear hR hy
        rintro e W3 (⟨rfl, hJ3, hk3⟩ | ⟨rfl, hJx3⟩)
        · have H3 := hide hJ3
          clear hJ3 hk3
          gi_wp2_with fail
          go_roundw
          case rel => exact ⟨pre ++ [⟨a, hal⟩], b, true, rfl, rfl, by omega, hide (by rw [HC'.out, HE.out, pcs_snoc]; simp), H3⟩
          case measure => simp [bitOf, szOf, str_size]; omega
        · have H3 := hide hJx3
          clear hJx3
          gi_wp2_with fail
          refine bodyPost_ret (results_none rfl _ _ _) rfl ?_
          exact ⟨⟨_, rfl⟩, .inr ⟨pre ++ [⟨a, hal⟩], ⟨cutB b, by rw [HC'.out, HE.out, pcs_snoc]; simp⟩, H3.out⟩⟩

set_option maxHeartbeats 1000000 in
/-- piecesOf: the text is boxed; the function value captures the box. -/
theorem piecesOf_in (s : ByteArray) (w : World) :
    Calls Tryz.prog 85 #[.string s] w fun e w' => e = .returned (.func (.func 123) #[] #[.pointer (some ⟨w.heap.size, 0, none⟩)]) ∧ w' = w.alloc (.cells #[.string s] 9) := by
  go_enter Tryz.func85, Tryz.ntmps85
  go_wp2
  go_ret
  exact ⟨rfl, rfl⟩

/-- What is ranged over. -/
theorem pieces_stops (n : Nat) (Bn n₀ : Nat) (t : Bs) (ht : t.length ≤ 2097152) (w : World) (hBn : Bn < w.heap.size) (hc : w.cell? ⟨Bn, 0, none⟩ = some (.string (str t))) :
    SeqStopsK Fence.wide n Tryz.prog 123 #[.pointer (some ⟨Bn, 0, none⟩)] (fun x : Pc => #[Value.string (str x.1)]) (Below n₀) (fun ys => pcs ys = cutB t) (fun pre => pcs pre <+: cutB t) (cutB t).length w := fun l J Jx W hW hJ _ hY h0 =>
  pieces1_in n l Bn n₀ t ht J Jx _ hJ hY W ((hW.cell (p := ⟨Bn, 0, none⟩) hBn).trans hc) h0

end Go.Proofs.YtjkmbicedbdifaaGreat
