/-
  Texts put together: PathL LayL Mem Parse TxtL WrdL Strs PathM LayP CutG AppAt WrdM PathS LibP WrdP.
-/
import Derived.Lib.Bytealg
import Derived.Lib.Strings
import GoSem.Op.String
import Derived.Test.YtkimblnabbfkfaaRows
import Derived.WalkKit
import Derived.WalkSpells
import Derived.WalkLawsBesides
import Derived.Deep.OwnRows
import Derived.BigQuiet
import Derived.Deep.QuietTactic
import Derived.Carry
import Derived.Lib.FieldsP
import Derived.Lib.MapLaws
import Derived.Shelf.Strings.OnBuilder
import Derived.Shelf.Strconv.Clone
import Derived.Shelf.Slices.Turned
import Derived.Shelf.Strings.Search2
import Derived.Shelf.Small.Wraps
import Derived.Shelf.Strings.FieldsFuncAny
import Derived.Test.YtkimblnabbfkfaaProg
import Derived.Lib.IndexLaws
import Derived.Maps.AppendAt
namespace Go.Proofs.Ytkimblnabbfkfaa
set_option linter.unusedVariables false

abbrev Bs := List UInt8
def str (l : Bs) : ByteArray := ⟨l.toArray⟩
theorem str_data (l : Bs) : (str l).data.toList = l := by simp [str]
theorem str_size (l : Bs) : (str l).size = l.length := by simp [str, ByteArray.size]
end Go.Proofs.Ytkimblnabbfkfaa

namespace Go.Proofs.Ytkimblnabbfkfaa
set_option linter.unusedVariables false

structure En where
  path : Bs
  kind : Int
  size : Int
  chunks : List Int
  deriving DecidableEq

end Go.Proofs.Ytkimblnabbfkfaa

namespace Go.Proofs.Ytkimblnabbfkfaa
open Go.RowKit
set_option linter.unusedVariables false

theorem hide {p : Prop} (h : p) : Hid p := h

structure Kept (S : Nat → Prop) (w w' : World) : Prop where
  os : w'.os = w.os
  tape : w'.tape = w.tape
  output : w'.output = w.output
  size : w.heap.size ≤ w'.heap.size
  block : ∀ k, k < w.heap.size → ¬ S k → w'.heap[k]? = w.heap[k]?

namespace Kept
variable {S T : Nat → Prop} {w w' w'' : World}
theorem refl (S : Nat → Prop) (w : World) : Kept S w w := ⟨rfl, rfl, rfl, Nat.le_refl _, fun _ _ _ => rfl⟩
theorem trans (h : Kept S w w') (k : Kept S w' w'') : Kept S w w'' :=
  ⟨k.os.trans h.os, k.tape.trans h.tape, k.output.trans h.output, Nat.le_trans h.size k.size, fun i hi hn => (k.block i (Nat.lt_of_lt_of_le hi h.size) hn).trans (h.block i hi hn)⟩
theorem alloc (h : Kept S w w') (o : Obj) : Kept S w (w'.alloc o) :=
  ⟨h.os, h.tape, h.output, Nat.le_trans h.size (by simp), fun k hk hn => (Below.heap_alloc _ _ _ (Nat.lt_of_lt_of_le hk h.size)).trans (h.block k hk hn)⟩
theorem setCell (h : Kept S w w') {p : Addr} (hp : p.block < w.heap.size → S p.block) (u : Value) : Kept S w (w'.setCell p u) :=
  ⟨h.os, h.tape, h.output, Nat.le_trans h.size (by simp [World.setCell]), fun k hk hn => (Below.heap_setCell _ _ _ _ (fun e => by subst e; exact hn (hp hk))).trans (h.block k hk hn)⟩
theorem cell (h : Kept S w w') {p : Addr} (hp : p.block < w.heap.size) (hn : ¬ S p.block) : w'.cell? p = w.cell? p := World.cell?_of_block (w := w) (h.block _ hp hn)
theorem frozen (h : Kept S w w') {p : Addr} (hp : p.block < w.heap.size) (hn : ¬ S p.block) : w'.frozen? p = w.frozen? p := World.frozen?_of_block (w := w) (h.block _ hp hn)
theorem below (h : Kept S w w') {B : Nat} (hB : B ≤ w.heap.size) (hS : ∀ k, k < B → ¬ S k) : Below B w w' := ⟨h.os, h.tape, h.output, h.size, fun k hk => h.block k (by omega) (hS k hk)⟩
theorem of_below (h : Below w.heap.size w w') : Kept S w w' := ⟨h.os, h.tape, h.output, h.size, fun k hk _ => h.block k hk⟩
end Kept

theorem Kept.two (w : World) (b i j : Nat) (u v : Value) : Kept (fun x => x = b) w ((w.setCell ⟨b, i, none⟩ u).setCell ⟨b, j, none⟩ v) :=
  Kept.setCell (S := fun x => x = b) (p := ⟨b, j, none⟩) (Kept.setCell (S := fun x => x = b) (p := ⟨b, i, none⟩) (Kept.refl _ w) (fun _ => rfl) u) (fun _ => rfl) v

def Two (w : World) (b : Nat) (u v : Value) : Prop := w.cell? ⟨b, 0, none⟩ = some u ∧ w.cell? ⟨b, 1, none⟩ = some v
theorem Two.lt {w : World} {b : Nat} {u v : Value} (h : Two w b u v) : b < w.heap.size := World.block_lt_of_cell? w ⟨b, 0, none⟩ h.1
theorem Two.kept {S : Nat → Prop} {w w' : World} {b : Nat} {u v : Value} (h : Two w b u v) (hk : Kept S w w') (hn : ¬ S b) : Two w' b u v :=
  ⟨(hk.cell (p := ⟨b, 0, none⟩) h.lt hn).trans h.1, (hk.cell (p := ⟨b, 1, none⟩) h.lt hn).trans h.2⟩
theorem Two.below {w w' : World} {b : Nat} {u v : Value} (h : Two w b u v) (hk : Below w.heap.size w w') : Two w' b u v :=
  h.kept (S := fun _ => False) (Kept.of_below hk) id
theorem Two.new (w : World) (u v : Value) (t : TypeId) : Two (w.alloc (.cells #[u, v] t)) w.heap.size u v := ⟨by simp, by simp⟩
def Box (w : World) (b : Nat) (u v : Value) : Prop := Two w b u v ∧ w.frozen? ⟨b, 0, none⟩ = false ∧ w.frozen? ⟨b, 1, none⟩ = false
theorem Box.kept {S : Nat → Prop} {w w' : World} {b : Nat} {u v : Value} (h : Box w b u v) (hk : Kept S w w') (hn : ¬ S b) : Box w' b u v :=
  ⟨h.1.kept hk hn, (hk.frozen (p := ⟨b, 0, none⟩) h.1.lt hn).trans h.2.1, (hk.frozen (p := ⟨b, 1, none⟩) h.1.lt hn).trans h.2.2⟩
theorem Box.below {w w' : World} {b : Nat} {u v : Value} (h : Box w b u v) (hk : Below w.heap.size w w') : Box w' b u v :=
  h.kept (S := fun _ => False) (Kept.of_below hk) id
theorem Box.new (w : World) (u v : Value) (t : TypeId) : Box (w.alloc (.cells #[u, v] t)) w.heap.size u v := ⟨Two.new w u v t, by simp, by simp⟩
theorem below_alloc (w : World) (o : Obj) : Below w.heap.size w (w.alloc o) := (Below.refl _ _).alloc (Nat.le_refl _) _
theorem below_next {w w' w'' : World} (h : Below w.heap.size w w') (k : Below w'.heap.size w' w'') : Below w.heap.size w w'' := h.trans (k.mono h.size)

theorem cell_set_same {w : World} {a : Addr} {v u : Value} (h : w.cell? a = some u) : (w.setCell a v).cell? a = some v :=
  World.cell?_setCell_same' w a v (by rw [h]; rfl)
theorem cell_set_other {w : World} {a b : Addr} {v : Value} (h : a ≠ b) : (w.setCell a v).cell? b = w.cell? b := by
  apply World.cell?_setCell_other; exact h
theorem wpList_append_one {P : Program} {wr : World} {news : Array Value} {ops : Array Oper} {rest : List Oper} {o : Oper} {a : Act} {Q : Exit → Act → World → Prop} (hgd : o.guard = none) (s x : Operand) (t : TypeId)
    (ho : o.op = .call { callee := .builtin .append, args := #[s, x], argTypes := #[t, t] })
    (base : Nat) (e : TypeId) (i : TypeInfo) (z : Value) (size bytes : Nat) (ht : P.underlying t = some (.slice e)) (hi : P.info? e = some i) (hz : i.zero = some z)
    (hsize : i.size = size) (hby : i.bytes = bytes) (hzs : z.cells.size = size) (hsz : 0 < size)
    (v : Value) (n : Nat) (xs : List Value) (hs : a.eval s = v) (hown : wr.ownsRow base e size v n xs)
    (hx : a.eval x = .slice (some ⟨wr.heap.size, 0, none⟩) 1 1) (hl : news.size = size) (h1 : ∀ u ∈ news.toList, u.oneCell' = true)
    (h63 : n + 1 ≤ maxLen) (hbytes : (n + 1) * bytes ≤ 140737488355328) (hbase : base ≤ wr.heap.size)
    (h : ∀ v' w', w'.ownsRow base e size v' (n + 1) (xs ++ news.toList) → Kept (fun b => v.ownBlock = some b) wr w' → wpList P ops Q rest (a.put o.dst v') w') :
    wpList P ops Q (o :: rest) a (wr.alloc (.cells news e)) := by
  refine wpList_append_own _ hgd s x t ho base e i z size bytes ht hi hz hsize hby hzs hsz v n xs hs (hown.alloc _) ⟨wr.heap.size, 0, none⟩ 1 1 news.toList hx (by simp [hl]) ?_ h1 h63 hbytes (by simp; omega) ?_
  · intro j u hj
    have hadd : (⟨wr.heap.size, 0, none⟩ : Addr).add j = ⟨wr.heap.size, j, none⟩ := by unfold Addr.add; split <;> simp_all
    rw [hadd, cell_of_row _ wr.heap.size j news e (0, 0) (heap_alloc_new wr _)]
    simpa using hj
  · intro v' w' ho' hg _
    refine h v' w' ho' ⟨hg.os, hg.tape, hg.output, Nat.le_trans (by simp) hg.size, fun k hk hn => ?_⟩
    rw [hg.block k (by simp; omega) (fun e => hn e.symm)]
    exact Below.heap_alloc _ _ _ hk

theorem Kept.below_own {w w' wr : World} {B : Nat} {v : Value} {e : TypeId} {size n : Nat} {xs : List Value} (hb : Below B w wr) (hB : B ≤ wr.heap.size) (hown : wr.ownsRow B e size v n xs) (hk : Kept (fun b => v.ownBlock = some b) wr w') : Below B w w' :=
  hb.trans (hk.below hB (fun k hk' he => by have := (hown.lt k he).1; omega))

theorem ownsRow_kept {S : Nat → Prop} {w w' : World} {base : Nat} {e : TypeId} {size : Nat} {v : Value} {n : Nat} {xs : List Value} (h : w.ownsRow base e size v n xs) (hk : Kept S w w') (hn : ∀ b, v.ownBlock = some b → ¬ S b) : w'.ownsRow base e size v n xs := by
  refine ⟨h.1, ?_⟩
  rcases h.2 with hz | ⟨g, cap, cur, rfl, hb, hgg, rest⟩
  · exact .inl hz
  · refine .inr ⟨g, cap, cur, rfl, hb, ?_, rest⟩
    rw [hk.block g (Array.getElem?_eq_some_iff.1 hgg).1 (hn g rfl)]
    exact hgg
theorem ownsRow_below {w w' : World} {base : Nat} {e : TypeId} {size : Nat} {v : Value} {n : Nat} {xs : List Value} (h : w.ownsRow base e size v n xs) (hk : Below w.heap.size w w') : w'.ownsRow base e size v n xs :=
  ownsRow_kept (S := fun _ => False) h (Kept.of_below hk) (fun _ _ => id)
theorem ownsRow_mono {w : World} {base base' : Nat} {e : TypeId} {size : Nat} {v : Value} {n : Nat} {xs : List Value} (h : w.ownsRow base e size v n xs) (hb : base' ≤ base) : w.ownsRow base' e size v n xs := by
  refine ⟨h.1, ?_⟩
  rcases h.2 with hz | ⟨g, cap, cur, hv, hg, rest⟩
  · exact .inl hz
  · exact .inr ⟨g, cap, cur, hv, by omega, rest⟩
theorem ownsRow_shape {w : World} {base : Nat} {e : TypeId} {size : Nat} {v : Value} {n : Nat} {xs : List Value} (h : w.ownsRow base e size v n xs) : ∃ a c, v = .slice a n c := by
  rcases h.2 with ⟨rfl, rfl⟩ | ⟨g, cap, cur, rfl, _⟩
  · exact ⟨_, _, rfl⟩
  · exact ⟨_, _, rfl⟩
def blkOf (a : Option Addr) (b : Nat) : Prop := a.map Addr.block = some b

def SameShape (w w' : World) : Prop := ∀ (g : Nat) (cur : Array Value) (t : TypeId), w.heap[g]? = some (.cells cur t (0, 0)) → ∃ cur' : Array Value, w'.heap[g]? = some (.cells cur' t (0, 0)) ∧ cur'.size = cur.size
theorem SameShape.refl (w : World) : SameShape w w := fun _ cur _ h => ⟨cur, h, rfl⟩
theorem SameShape.trans {w w' w'' : World} (h : SameShape w w') (k : SameShape w' w'') : SameShape w w'' := fun g cur t e => by
  obtain ⟨c1, e1, s1⟩ := h g cur t e
  obtain ⟨c2, e2, s2⟩ := k g c1 t e1
  exact ⟨c2, e2, s2.trans s1⟩
theorem SameShape.setCell {w w' : World} (h : SameShape w w') (b o : Nat) (v : Value) : SameShape w (w'.setCell ⟨b, o, none⟩ v) := by
  refine h.trans fun g cur t e => ?_
  by_cases hg : g = b
  · subst hg
    exact ⟨cur.setIfInBounds o v, heap_setCell_same w' g o cur t v e, by simp⟩
  · exact ⟨cur, (heap_setCell_other w' ⟨b, o, none⟩ g v hg).trans e, rfl⟩
theorem own_back {w w' : World} {B : Nat} {e : TypeId} {g n cap : Nat} {xs ys : List Value} (h : w.ownsRow B e 1 (.slice (some ⟨g, 0, none⟩) n cap) n xs) (hs : SameShape w w') (hy : ys.length = n) (hc : ∀ i, i < n → w'.cell? ⟨g, i, none⟩ = ys[i]?) :
    w'.ownsRow B e 1 (.slice (some ⟨g, 0, none⟩) n cap) n ys := by
  refine ⟨by omega, .inr ?_⟩
  rcases h.2 with ⟨h', _⟩ | ⟨g', cap', cur, h', hb, hh, hnc, hcm, hcs, htake⟩
  · simp at h'
  · simp only [Value.slice.injEq, Option.some.injEq, Addr.mk.injEq, and_true, true_and] at h'
    obtain ⟨rfl, rfl⟩ := h'
    obtain ⟨cur', e', s'⟩ := hs g cur e hh
    refine ⟨g, cap, cur', rfl, hb, e', hnc, hcm, by omega, ?_⟩
    apply List.ext_getElem?
    intro i
    by_cases hi : i < n
    · have := hc i hi
      rw [cell_of_row w' g i cur' e (0, 0) e'] at this
      rw [List.getElem?_take, if_pos (by omega), ← this]
      simp
    · rw [List.getElem?_take, if_neg (by omega), List.getElem?_eq_none (by omega)]

def marks (k : Int) (n : Nat) : List Int := (List.range n).map fun (i : Nat) => (k + i) % 256
structure InW (Inv : World → Prop) where
  val : World
  ok : Inv val
theorem wp_region_inv {P : Program} {Inv : World → Prop} {id : Nat} {Q : Exit → Act → World → Prop} {a : Act} {w : World} {l : List Oper} (hm : P.follows .mixedOrders = true) (hB : Region.lexB .any l.toArray = true) (h0 : Inv w.drew)
    (h : wpQuiet P l.toArray (fun w' => ∃ u : InW Inv, w' = u.val) (fun a' => ∀ w', (∃ u : InW Inv, w' = u.val) → Q .normal a' w') l a) : (Code.region id l.toArray true).wp P Q a w :=
  wp_region_quiet (C := fun w' => ∃ u : InW Inv, w' = u.val) hm hB ⟨⟨_, h0⟩, rfl⟩ (by simpa using h)
end Go.Proofs.Ytkimblnabbfkfaa

namespace Go.Proofs.Ytkimblnabbfkfaa
open Go.RowKit
set_option linter.unusedVariables false
set_option maxRecDepth 100000

def hv (c : Int) : Option Int := if 48 ≤ c ∧ c ≤ 57 then some (c - 48) else if 97 ≤ c ∧ c ≤ 102 then some (c - 87) else none
end Go.Proofs.Ytkimblnabbfkfaa

namespace Go.Proofs.Ytkimblnabbfkfaa
set_option linter.unusedVariables false

def cutC (m : UInt8) : Bs → List Bs
  | [] => [[]]
  | c :: l => if c = m then [] :: cutC m l else
    match cutC m l with
    | [] => [[c]]
    | p :: ps => (c :: p) :: ps

theorem cutC_ne (m : UInt8) (l : Bs) : cutC m l ≠ [] := by
  cases l with
  | nil => simp [cutC]
  | cons c l =>
    simp only [cutC]
    split
    · simp
    · split <;> simp
theorem cutC_mark {m : UInt8} (l : Bs) : cutC m (m :: l) = [] :: cutC m l := by simp [cutC]
theorem cutC_other {m : UInt8} {c : UInt8} (h : c ≠ m) {l : Bs} {p : Bs} {ps : List Bs} (e : cutC m l = p :: ps) : cutC m (c :: l) = (c :: p) :: ps := by
  simp [cutC, h, e]
theorem cutC_head {m : UInt8} (l : Bs) : ∃ p ps, cutC m l = p :: ps := by
  cases e : cutC m l with
  | nil => exact absurd e (cutC_ne m l)
  | cons p ps => exact ⟨p, ps, rfl⟩

theorem cutC_miss {m : UInt8} {l : Bs} (h : m ∉ l) : cutC m l = [l] := by
  induction l with
  | nil => rfl
  | cons c l ih =>
    have h1 : c ≠ m := fun e => h (by simp [e])
    have h2 : m ∉ l := fun e => h (by simp [e])
    exact cutC_other h1 (ih h2)
theorem cutC_hit {m : UInt8} {a : Bs} (b : Bs) (h : m ∉ a) : cutC m (a ++ m :: b) = a :: cutC m b := by
  induction a with
  | nil => exact cutC_mark b
  | cons c a ih =>
    have h1 : c ≠ m := fun e => h (by simp [e])
    have h2 : m ∉ a := fun e => h (by simp [e])
    exact cutC_other h1 (ih h2)

theorem cutC_snoc {m : UInt8} : ∀ (l : Bs) (c : UInt8) (o : List Bs) (x : Bs), cutC m l = o ++ [x] → cutC m (l ++ [c]) = if c = m then o ++ [x] ++ [[]] else o ++ [x ++ [c]]
  | [], c, o, x, h => by
    have e : o = [] ∧ x = [] := by
      cases o with
      | nil => simpa [cutC, eq_comm] using h
      | cons a o => simp [cutC] at h
    obtain ⟨rfl, rfl⟩ := e
    by_cases hc : c = m
    · subst hc; simp [cutC]
    · simp [cutC, hc]
  | d :: l, c, o, x, h => by
    by_cases hd : d = m
    · subst hd
      rw [cutC_mark] at h
      cases o with
      | nil =>
        simp at h
        exact absurd h.2 (cutC_ne _ l)
      | cons a o =>
        simp at h
        obtain ⟨rfl, h⟩ := h
        have ih := cutC_snoc l c o x h
        simp only [List.cons_append, cutC_mark, ih]
        split <;> simp
    · obtain ⟨p, ps, e⟩ := cutC_head l
      rw [cutC_other hd e] at h
      cases o with
      | nil =>
        simp at h
        obtain ⟨rfl, rfl⟩ := h
        have ih := cutC_snoc l c [] p e
        by_cases hc : c = m
        · simp only [hc, if_pos, List.nil_append, List.cons_append] at ih ⊢
          exact cutC_other hd ih
        · simp only [hc, if_false, List.nil_append, List.cons_append] at ih ⊢
          exact cutC_other hd ih
      | cons a o =>
        simp at h
        obtain ⟨rfl, h⟩ := h
        have ih := cutC_snoc (m := m) l c (p :: o) x (by simp [e, h])
        by_cases hc : c = m
        · simp only [hc, if_pos, List.cons_append] at ih ⊢
          exact cutC_other hd ih
        · simp only [hc, if_false, List.cons_append] at ih ⊢
          exact cutC_other hd ih

theorem cutC_no {m : UInt8} : ∀ (l : Bs), ∀ n ∈ cutC m l, m ∉ n
  | [], n, h => by simp [cutC] at h; simp [h]
  | c :: l, n, h => by
    by_cases hc : c = m
    · subst hc
      rw [cutC_mark] at h
      rcases List.mem_cons.1 h with rfl | h
      · simp
      · exact cutC_no l n h
    · obtain ⟨p, ps, e⟩ := cutC_head l
      rw [cutC_other hc e] at h
      rcases List.mem_cons.1 h with rfl | h
      · have := cutC_no (m := m) l p (by simp [e])
        simp [this, Ne.symm hc]
      · exact cutC_no (m := m) l n (by simp [e, h])

theorem cutC_length {m : UInt8} (l : Bs) : (cutC m l).length ≤ l.length + 1 := by
  induction l with
  | nil => simp [cutC]
  | cons c l ih =>
    by_cases hc : c = m
    · subst hc; rw [cutC_mark]; simp; omega
    · obtain ⟨p, ps, e⟩ := cutC_head l
      rw [cutC_other hc e]
      rw [e] at ih
      simp at ih ⊢; omega
theorem cutC_each {m : UInt8} : ∀ (l : Bs), ∀ n ∈ cutC m l, n.length ≤ l.length
  | [], n, h => by simp [cutC] at h; simp [h]
  | c :: l, n, h => by
    by_cases hc : c = m
    · subst hc
      rw [cutC_mark] at h
      rcases List.mem_cons.1 h with rfl | h
      · simp
      · have := cutC_each l n h; simp; omega
    · obtain ⟨p, ps, e⟩ := cutC_head l
      rw [cutC_other hc e] at h
      rcases List.mem_cons.1 h with rfl | h
      · have := cutC_each (m := m) l p (by simp [e]); simp; omega
      · have := cutC_each (m := m) l n (by simp [e, h]); simp; omega

end Go.Proofs.Ytkimblnabbfkfaa

namespace Go.Proofs.Ytkimblnabbfkfaa
set_option linter.unusedVariables false

def wordsB (l : Bs) : List Bs := (cutC 32 l).filter fun p => !p.isEmpty

theorem wordsB_nil : wordsB [] = [] := by simp [wordsB, cutC]
theorem wordsB_blank (l : Bs) : wordsB (32 :: l) = wordsB l := by simp [wordsB, cutC_mark]
theorem wordsB_word {a : Bs} (ha : a ≠ []) (h : (32 : UInt8) ∉ a) (b : Bs) : wordsB (a ++ 32 :: b) = a :: wordsB b := by
  unfold wordsB
  rw [cutC_hit b h, List.filter_cons_of_pos (by cases a with | nil => exact absurd rfl ha | cons _ _ => rfl)]
theorem wordsB_last {a : Bs} (ha : a ≠ []) (h : (32 : UInt8) ∉ a) : wordsB a = [a] := by
  unfold wordsB
  rw [cutC_miss h, List.filter_cons_of_pos (by cases a with | nil => exact absurd rfl ha | cons _ _ => rfl)]
  rfl
theorem wordsB_each (l : Bs) : ∀ p ∈ wordsB l, p.length ≤ l.length := fun p hp => cutC_each l p (List.mem_filter.1 hp).1
theorem cutC_flat (m : UInt8) : ∀ l : Bs, (cutC m l).flatten.length ≤ l.length
  | [] => by simp [cutC]
  | c :: l => by
    have ih := cutC_flat m l
    by_cases h : c = m
    · subst h
      rw [cutC_mark]
      simp at ih ⊢
      omega
    · obtain ⟨p, ps, e⟩ := cutC_head (m := m) l
      rw [cutC_other h e]
      rw [e] at ih
      simp at ih ⊢
      omega
theorem filter_flat : ∀ ps : List Bs, (ps.filter fun p => !p.isEmpty).length ≤ ps.flatten.length
  | [] => by simp
  | p :: ps => by
    have ih := filter_flat ps
    cases p with
    | nil => simpa using ih
    | cons c p => simp at ih ⊢; omega
theorem wordsB_length (l : Bs) : (wordsB l).length ≤ l.length := Nat.le_trans (filter_flat _) (cutC_flat 32 l)

def isBlank (r : Nat) : Bool := decide (r = 32)

theorem get_bang (s : ByteArray) (k : Nat) : s.get! k = s.data.toList.getD k 0 := by
  show s.data[k]! = _
  rw [getElem!_def, List.getD_eq_getElem?_getD, Array.getElem?_toList]
  cases s.data[k]? <;> rfl

theorem decode_other (s : ByteArray) (pos : Nat) (h : pos < s.size) (hc : s.data.toList.getD pos 0 ≠ 32) :
    isBlank (Utf8.decode s pos).1 = false ∧ (32 : UInt8) ∉ (s.data.toList.drop pos).take (Utf8.decode s pos).2 := by
  have hg : ∀ k, s.get! k = s.data.toList.getD k 0 := get_bang s
  have hl : s.data.toList.length = s.size := Array.length_toList
  have hnb : (s.data.toList.getD pos 0).toNat ≠ 32 := fun e => hc (UInt8.toNat_inj.1 (by rw [e]; rfl))
  have hdl : (s.data.toList.drop pos).length = s.size - pos := by rw [List.length_drop, hl]
  have hd : ∀ j, (s.data.toList.drop pos).getD j 0 = s.data.toList.getD (pos + j) 0 := by intro j; rw [List.getD_eq_getElem?_getD, List.getD_eq_getElem?_getD, List.getElem?_drop]
  rw [Lib.decode_at]
  rw [hg pos, hg (pos + 1), hg (pos + 2), hg (pos + 3)]
  have k0 := (s.data.toList.getD pos 0).toNat_lt
  have e1 : (s.data.toList.drop pos).take 1 = [s.data.toList.getD pos 0] := by rw [Lib.takeA _ (by omega), hd]; rfl
  have cont : ∀ x : UInt8, x.toNat / 64 = 2 → (32 : UInt8) ≠ x := fun x hx e => by subst e; exact absurd hx (by decide)
  have first : (32 : UInt8) ≠ s.data.toList.getD pos 0 := fun e => hc e.symm
  rcases Lib.decodeN_shape (s.size - pos) (s.data.toList.getD pos 0).toNat (s.data.toList.getD (pos + 1) 0).toNat (s.data.toList.getD (pos + 2) 0).toNat (s.data.toList.getD (pos + 3) 0).toNat with ⟨c, e⟩ | ⟨c0, cn, c1, cv, e⟩ | ⟨c0, cn, c1, c2, cv, cs, e⟩ | ⟨c0, cn, c1, c2, c3, cv, cw, e⟩ | e
  · rw [e]
    refine ⟨by simp only [isBlank, decide_eq_false_iff_not]; exact hnb, ?_⟩
    rw [e1]
    simp only [List.mem_singleton]
    exact first
  · rw [e]
    refine ⟨by simp only [isBlank, decide_eq_false_iff_not]; omega, ?_⟩
    rw [Lib.takeB _ (by omega), hd, hd]
    simp only [List.mem_cons, List.not_mem_nil, or_false, not_or]
    exact ⟨first, cont _ c1⟩
  · rw [e]
    refine ⟨by simp only [isBlank, decide_eq_false_iff_not]; omega, ?_⟩
    rw [Lib.takeC _ (by omega), hd, hd, hd]
    simp only [List.mem_cons, List.not_mem_nil, or_false, not_or]
    exact ⟨first, cont _ c1, cont _ c2⟩
  · rw [e]
    refine ⟨by simp only [isBlank, decide_eq_false_iff_not]; omega, ?_⟩
    rw [Lib.takeD _ (by omega), hd, hd, hd, hd]
    simp only [List.mem_cons, List.not_mem_nil, or_false, not_or]
    exact ⟨first, cont _ c1, cont _ c2, cont _ c3⟩
  · rw [e]
    refine ⟨by decide, ?_⟩
    rw [e1]
    simp only [List.mem_singleton]
    exact first

theorem decode_blank (s : ByteArray) (pos : Nat) (h : pos < s.size) (hc : s.data.toList.getD pos 0 = 32) : Utf8.decode s pos = (32, 1) := by
  have hg : s.get! pos = s.data.toList.getD pos 0 := get_bang s pos
  rw [Lib.decode_at, hg, hc]
  exact Lib.decodeN_ascii _ _ _ _ _ (by decide)

def pieceW (s : ByteArray) (x : Nat × Nat) : Bs := (s.extract x.1 x.2).data.toList
theorem pieceW_eq (s : ByteArray) (a b : Nat) : pieceW s (a, b) = Lib.pieceU s.data.toList a b := by
  simp [pieceW, Lib.pieceU, List.extract]

theorem spans_words (s : ByteArray) : ∀ (f pos : Nat) (st : Option Nat) (acc : List (Nat × Nat)), s.size ≤ pos + f → pos ≤ s.size → (∀ a, st = some a → a < pos) → (32 : UInt8) ∉ Lib.openPiece s.data.toList st pos →
    (Lib.closeSpans s (Lib.spansFromP isBlank s f pos st acc)).map (pieceW s) = acc.map (pieceW s) ++ wordsB (Lib.openPiece s.data.toList st pos ++ s.data.toList.drop pos) := by
  have hl : s.data.toList.length = s.size := Array.length_toList
  intro f
  induction f with
  | zero =>
    intro pos st acc hf hp hst hno
    have hd : s.data.toList.drop pos = [] := List.drop_eq_nil_of_le (by omega)
    simp only [Lib.spansFromP]
    rw [hd, List.append_nil]
    cases st with
    | none => simp [Lib.closeSpans, Lib.openPiece, wordsB_nil]
    | some a =>
      have hap := hst a rfl
      have hpe : pos = s.size := by omega
      simp only [Lib.closeSpans, Lib.openPiece] at hno ⊢
      rw [wordsB_last (Lib.pieceU_ne _ _ _ hap (by omega)) hno]
      simp [pieceW_eq, hpe]
  | succ f ih =>
    intro pos st acc hf hp hst hno
    by_cases hlt : pos < s.size
    · have hw1 := Lib.width_pos s pos
      have hwn : pos + (Utf8.decode s pos).2 ≤ s.size := by
        have := Lib.decodeN_le_n' (s.size - pos) (s.get! pos).toNat (s.get! (pos + 1)).toNat (s.get! (pos + 2)).toNat (s.get! (pos + 3)).toNat (by omega)
        rw [← Lib.decode_at] at this
        omega
      simp only [Lib.spansFromP, hlt, if_true]
      by_cases hc : s.data.toList.getD pos 0 = 32
      · have hde := decode_blank s pos hlt hc
        have hdr : s.data.toList.drop pos = 32 :: s.data.toList.drop (pos + 1) := by
          rw [List.drop_eq_getElem_cons (by omega)]
          congr 1
          rw [← hc, List.getD_eq_getElem?_getD, List.getElem?_eq_getElem (by omega)]
          rfl
        rw [hde, hdr]
        simp only [show isBlank 32 = true from rfl, if_true]
        cases st with
        | none =>
          rw [ih (pos + 1) none acc (by omega) (by omega) (fun a h => by cases h) (by simp [Lib.openPiece])]
          simp only [Lib.openPiece, List.nil_append]
          rw [wordsB_blank]
        | some a =>
          have hap := hst a rfl
          simp only [Lib.openPiece] at hno
          show (Lib.closeSpans s (Lib.spansFromP isBlank s f (pos + 1) none (acc ++ [(a, pos)]))).map (pieceW s) = _
          rw [ih (pos + 1) none (acc ++ [(a, pos)]) (by omega) (by omega) (fun a h => by cases h) (by simp [Lib.openPiece])]
          simp only [Lib.openPiece, List.nil_append]
          rw [wordsB_word (Lib.pieceU_ne _ _ _ hap (by omega)) hno, List.map_append, List.append_assoc]
          simp [pieceW_eq]
      · obtain ⟨h1, h2⟩ := decode_other s pos hlt hc
        obtain ⟨K, hK⟩ : ∃ K, (Utf8.decode s pos).2 = K := ⟨_, rfl⟩
        rw [hK] at h2 hwn hw1
        rw [h1, hK]
        simp only [Bool.false_eq_true, if_false]
        have hsplit : s.data.toList.drop pos = (s.data.toList.drop pos).take K ++ s.data.toList.drop (pos + K) := by
          rw [← List.drop_drop, List.take_append_drop]
        cases st with
        | none =>
          have hop : Lib.openPiece s.data.toList (some pos) (pos + K) = (s.data.toList.drop pos).take K := by
            simp only [Lib.openPiece, Lib.pieceU]
            congr 1
            omega
          show (Lib.closeSpans s (Lib.spansFromP isBlank s f (pos + K) (some pos) acc)).map (pieceW s) = _
          rw [ih (pos + K) (some pos) acc (by omega) hwn (fun a h => by cases h; omega) (by rw [hop]; exact h2), hop]
          simp only [Lib.openPiece, List.nil_append]
          rw [← hsplit]
        | some a =>
          have hap := hst a rfl
          have hop : Lib.openPiece s.data.toList (some a) (pos + K) = Lib.openPiece s.data.toList (some a) pos ++ (s.data.toList.drop pos).take K := by
            simp only [Lib.openPiece]
            exact (Lib.pieceU_grow _ _ _ _ (by omega)).symm
          show (Lib.closeSpans s (Lib.spansFromP isBlank s f (pos + K) (some a) acc)).map (pieceW s) = _
          rw [ih (pos + K) (some a) acc (by omega) hwn (fun b h => by cases h; omega) (by rw [hop]; intro hm; rcases List.mem_append.1 hm with h | h; exact hno h; exact h2 h), hop, List.append_assoc, ← hsplit]
    · have hpe : pos = s.size := by omega
      rw [Lib.spansFromP_end _ _ _ _ _ _ hlt]
      have hd : s.data.toList.drop pos = [] := List.drop_eq_nil_of_le (by omega)
      rw [hd, List.append_nil]
      cases st with
      | none => simp [Lib.closeSpans, Lib.openPiece, wordsB_nil]
      | some a =>
        have hap := hst a rfl
        simp only [Lib.closeSpans, Lib.openPiece] at hno ⊢
        rw [wordsB_last (Lib.pieceU_ne _ _ _ hap (by omega)) hno]
        simp [pieceW_eq, hpe]

theorem fields_words (s : ByteArray) : Lib.goFieldsP isBlank s = (wordsB s.data.toList).map str := by
  have h := spans_words s s.size 0 none [] (by omega) (Nat.zero_le _) (fun a h => by cases h) (by simp [Lib.openPiece])
  simp only [List.map_nil, List.nil_append, Lib.openPiece, List.drop_zero] at h
  rw [← h, List.map_map]
  unfold Lib.goFieldsP Lib.spansOfP
  congr 1
end Go.Proofs.Ytkimblnabbfkfaa

namespace Go.Proofs.Ytkimblnabbfkfaa
open Go.RowKit
set_option linter.unusedVariables false

theorem ret_str {a b : ByteArray} (h : a = b) : Ending.returned (.string a) = .returned (.string b) := by rw [h]

def vS (p : Bs) : Value := .string (str p)
def OwnS (B : Nat) (w : World) (v : Value) (ps : List Bs) : Prop := w.ownsRow B 9 1 v ps.length (ps.map vS)
def ReadsS (w : World) (a : Option Addr) (ps : List Bs) : Prop :=
  ps ≠ [] → ∃ b off, a = some ⟨b, off, none⟩ ∧ b < w.heap.size ∧ ∀ i, i < ps.length → w.cell? ⟨b, off + i, none⟩ = some (.string (str (ps.getD i [])))

theorem ReadsS.kept {S : Nat → Prop} {w w' : World} {a : Option Addr} {ps : List Bs} (h : ReadsS w a ps) (hk : Kept S w w') (hn : ps ≠ [] → ∀ x, a = some x → ¬ S x.block) : ReadsS w' a ps := by
  intro hz
  obtain ⟨b, off, rfl, hb, hc⟩ := h hz
  exact ⟨b, off, rfl, Nat.lt_of_lt_of_le hb hk.size, fun i hi => (hk.cell (p := ⟨b, off + i, none⟩) hb (hn hz ⟨b, off, none⟩ rfl)).trans (hc i hi)⟩
theorem ReadsS.below {w w' : World} {a : Option Addr} {ps : List Bs} (h : ReadsS w a ps) (hk : Below w.heap.size w w') : ReadsS w' a ps :=
  h.kept (S := fun _ => False) (Kept.of_below hk) (fun _ _ _ => id)
theorem ReadsS.at {w : World} {a : Option Addr} {ps : List Bs} (h : ReadsS w a ps) {k : Nat} (hk : k < ps.length) :
    ∃ b off p, a = some ⟨b, off, none⟩ ∧ b < w.heap.size ∧ ps[k]? = some p ∧ w.cell? ⟨b, off + k, none⟩ = some (.string (str p)) := by
  obtain ⟨b, off, e, hb, hc⟩ := h (by intro e; simp [e] at hk)
  refine ⟨b, off, ps[k], e, hb, by simp [hk], ?_⟩
  rw [hc k hk]
  simp [List.getD_eq_getElem?_getD, hk]

namespace OwnS
variable {B : Nat} {w w' : World} {v : Value} {ps : List Bs}
theorem nil (B : Nat) (w : World) : OwnS B w (.slice none 0 0) [] := World.ownsRow_nil _ _ _ _
theorem shape (h : OwnS B w v ps) : ∃ a c, v = .slice a ps.length c := ownsRow_shape h
theorem below (h : OwnS B w v ps) (hk : Below w.heap.size w w') : OwnS B w' v ps := ownsRow_below h hk
theorem kept {S : Nat → Prop} (h : OwnS B w v ps) (hk : Kept S w w') (hn : ∀ b, v.ownBlock = some b → ¬ S b) : OwnS B w' v ps := ownsRow_kept h hk hn
theorem mono {B' : Nat} (h : OwnS B w v ps) (hb : B' ≤ B) : OwnS B' w v ps := ownsRow_mono h hb
theorem reads {a : Option Addr} {n c : Nat} (h : OwnS B w (.slice a n c) ps) : ReadsS w a ps := by
  intro hz
  have h0 : 0 < ps.length := List.length_pos_iff.2 hz
  rcases h.2 with ⟨h', hh⟩ | ⟨g, cap, cur, h', hb, hh, hnc, hcm, hcs, htake⟩
  · omega
  · have hl : n = ps.length ∧ a = some ⟨g, 0, none⟩ := by simp only [Value.slice.injEq] at h'; exact ⟨h'.2.1, h'.1⟩
    obtain ⟨rfl, rfl⟩ := hl
    refine ⟨g, 0, rfl, (h.lt g rfl).2, fun i hi => ?_⟩
    have := World.ownsRow.cellAt h i (by omega)
    rw [Nat.zero_add, this]
    simp [List.getD_eq_getElem?_getD, hi, vS]
end OwnS

theorem OwnS.snoc {B : Nat} {w : World} {v : Value} {ps : List Bs} {p : Bs} {s : ByteArray} (h : w.ownsRow B 9 1 v (ps.length + 1) (ps.map vS ++ #[Value.string s].toList)) (hs : s = str p) : OwnS B w v (ps ++ [p]) := by
  unfold OwnS
  subst hs
  simpa [vS] using h

end Go.Proofs.Ytkimblnabbfkfaa

namespace Go.Proofs.Ytkimblnabbfkfaa
open Go.RowKit
set_option linter.unusedVariables false

theorem small_take_snoc (s : ByteArray) (k : Nat) (h : k < s.size) : s.data.toList.take (k + 1) = s.data.toList.take k ++ [s[k]] := by
  rw [List.take_succ_eq_append_getElem (by simpa using h)]; rfl
theorem infoS : (Try.prog.info? 9).map (fun i => (i.zero, i.size, i.bytes)) = some (some (.string ⟨#[]⟩), 1, 16) := by kernel_rfl

theorem take_piece (s : ByteArray) {j k : Nat} (hj : j ≤ k) (hk : k < s.size) : (s.data.toList.drop j).take (k + 1 - j) = (s.data.toList.drop j).take (k - j) ++ [s[k]] := by
  have e : k + 1 - j = (k - j) + 1 := by omega
  have hl : k - j < (s.data.toList.drop j).length := by simp; omega
  rw [e, List.take_succ_eq_append_getElem hl]
  congr 2
  rw [List.getElem_drop]
  have : j + (k - j) = k := by omega
  simp [this]
  rfl
end Go.Proofs.Ytkimblnabbfkfaa

namespace Go.Proofs.Ytkimblnabbfkfaa
open Go.RowKit Go.Shelf
set_option linter.unusedVariables false
def Try.cloneA_ren : Go.Shelf.Ren := ⟨fun | 316 => 18 | n => n, fun | 9 => 9 | 3 => 3 | 4 => 4 | 37 => 40 | 0 => 0 | 127 => 41 | 5 => 5 | n => n, fun | n => n⟩
theorem Try.cloneA : Go.Proofs.LaysM.n316 Try.prog Try.cloneA_ren := {
  mixed := by kernel_rfl
  f316 := Try.func18.trans (congrArg some (by kernel_rfl))
  t0 := Try.underlying0
  a0 := Try.isAgg0
  z0 := Try.sizeOf0
  v0 := Try.zeroValue0
  t3 := Try.underlying3
  a3 := Try.isAgg3
  z3 := Try.sizeOf3
  v3 := Try.zeroValue3
  t4 := Try.underlying4
  a4 := Try.isAgg4
  z4 := Try.sizeOf4
  v4 := Try.zeroValue4
  t9 := Try.underlying9
  a9 := Try.isAgg9
  z9 := Try.sizeOf9
  v9 := Try.zeroValue9
  t37 := Try.underlying40
  a37 := Try.isAgg40
  z37 := Try.sizeOf40
  v37 := Try.zeroValue40
  t127 := Try.underlying41
  a127 := Try.isAgg41
  z127 := Try.sizeOf41
  v127 := Try.zeroValue41
  t5 := Try.underlying5
  a5 := Try.isAgg5
  z5 := Try.sizeOf5
  v5 := Try.zeroValue5
  i0 := by kernel_rfl
  i3 := by kernel_rfl
  i4 := by kernel_rfl
  i5 := by kernel_rfl
  i9 := by kernel_rfl
  i37 := by kernel_rfl
  i127 := by kernel_rfl }
def Try.fieldsA_ren : Go.Shelf.Ren := ⟨fun | 229 => 16 | n => n, fun | 9 => 9 | 40 => 35 | 31 => 22 | 152 => 37 | 3 => 3 | 0 => 0 | 4 => 4 | 21 => 21 | 154 => 39 | n => n, fun | n => n⟩
theorem Try.fieldsA : Go.Proofs.Lays.n229 Try.prog Try.fieldsA_ren := {
  mixed := by kernel_rfl
  f229 := Try.func16.trans (congrArg some (by kernel_rfl))
  t0 := Try.underlying0
  a0 := Try.isAgg0
  z0 := Try.sizeOf0
  v0 := Try.zeroValue0
  t3 := Try.underlying3
  a3 := Try.isAgg3
  z3 := Try.sizeOf3
  v3 := Try.zeroValue3
  t4 := Try.underlying4
  a4 := Try.isAgg4
  z4 := Try.sizeOf4
  v4 := Try.zeroValue4
  t9 := Try.underlying9
  a9 := Try.isAgg9
  z9 := Try.sizeOf9
  v9 := Try.zeroValue9
  t21 := Try.underlying21
  a21 := Try.isAgg21
  z21 := Try.sizeOf21
  v21 := Try.zeroValue21
  t31 := Try.underlying22
  a31 := Try.isAgg22
  z31 := Try.sizeOf22
  v31 := Try.zeroValue22
  t40 := Try.underlying35
  a40 := Try.isAgg35
  z40 := Try.sizeOf35
  v40 := Try.zeroValue35
  t152 := Try.underlying37
  a152 := Try.isAgg37
  z152 := Try.sizeOf37
  v152 := Try.zeroValue37
  t154 := Try.underlying39
  a154 := Try.isAgg39
  z154 := Try.sizeOf39
  v154 := Try.zeroValue39 }
end Go.Proofs.Ytkimblnabbfkfaa

namespace Go.Proofs.Ytkimblnabbfkfaa
open Go.RowKit
set_option linter.unusedVariables false

def cutAtC (m : UInt8) (l : Bs) (q : List Bs) (j k : Nat) : Prop := (k ≤ l.length → cutC m (l.take k) = q ++ [(l.drop j).take (k - j)]) ∧ (l.length < k → q = cutC m l)
theorem cutAtC_zero (m : UInt8) (l : Bs) : cutAtC m l [] 0 0 := ⟨fun _ => by simp [cutC], fun h => by omega⟩
theorem cutAtC_end {m : UInt8} {l : Bs} {q : List Bs} {j : Nat} (h : cutAtC m l q j l.length) : cutAtC m l (q ++ [(l.drop j).take (l.length - j)]) (l.length + 1) (l.length + 1) := by
  refine ⟨fun h => by omega, fun _ => ?_⟩
  rw [← h.1 (Nat.le_refl _), List.take_length]
theorem cutAtC_hit {m : UInt8} {s : ByteArray} {q : List Bs} {j k : Nat} (h : cutAtC m s.data.toList q j k) (hk : k < s.size) (hj : j ≤ k) (hc : s[k] = m) : cutAtC m s.data.toList (q ++ [(s.data.toList.drop j).take (k - j)]) (k + 1) (k + 1) := by
  have hl : s.data.toList.length = s.size := (Lib.size_eq s).symm
  refine ⟨fun _ => ?_, fun h' => by omega⟩
  rw [small_take_snoc s k hk, cutC_snoc _ _ _ _ (h.1 (by omega)), if_pos hc]
  simp
theorem cutAtC_miss {m : UInt8} {s : ByteArray} {q : List Bs} {j k : Nat} (h : cutAtC m s.data.toList q j k) (hk : k < s.size) (hj : j ≤ k) (hc : s[k] ≠ m) : cutAtC m s.data.toList q j (k + 1) := by
  have hl : s.data.toList.length = s.size := (Lib.size_eq s).symm
  refine ⟨fun _ => ?_, fun h' => by omega⟩
  rw [small_take_snoc s k hk, cutC_snoc _ _ _ _ (h.1 (by omega)), if_neg hc, take_piece s hj hk]

set_option maxRecDepth 100000 in
set_option maxHeartbeats 1600000 in
theorem l3CutC_any (m : UInt8) (s : ByteArray) (w : World) (hs : s.size ≤ 2097152) :
    Calls Try.prog 15 #[.string s, .int .u8 m.toNat] w fun e w' => ∃ v, e = .returned v ∧ OwnS w.heap.size w' v (cutC m s.data.toList) ∧ Below w.heap.size w w' := by
  obtain ⟨i1, ki, kz0, kz1, kz2⟩ := info_parts infoS
  have hl : s.data.toList.length = s.size := (Lib.size_eq s).symm
  have HL := hide hl
  clear hl
  have O1 := hide (World.ownsRow_made (base := w.heap.size) (e := 9) (size := 1) w #[] 0 (Nat.le_refl _) (Nat.zero_le _) rfl)
  have hm0 := m.toNat_lt
  go_enter Try.func15, Try.ntmps15
  go_wp2_with fail
  go_loopw [5, 6, 7] (fun v f i wr => ∃ (k j : Nat) (q : List Bs), k ≤ s.size + 1 ∧ j ≤ k ∧ q.length ≤ k ∧ i = .int .i64 k ∧ f = .int .i64 j ∧ Hid (OwnS w.heap.size wr v q) ∧ Hid (cutAtC m s.data.toList q j k) ∧ Hid (Below w.heap.size w wr)) (fun _ _ i _ => s.size + 1 - (intOf i).toNat)
  case atStart => exact ⟨0, 0, [], by omega, by omega, by simp, rfl, rfl, hide O1.out, hide (cutAtC_zero m _), hide (below_alloc _ _)⟩
  case round =>
    obtain ⟨k, j, q, hk, hj, hq, rfl, rfl, HO, HC, HB⟩ := hrel
    obtain ⟨va, vc, rfl⟩ := HO.out.shape
    have hm1 : q.length + 1 ≤ maxLen := by unfold maxLen; omega
    have hm2 : (q.length + 1) * 16 ≤ 140737488355328 := by omega
    have hsz := HB.out.size
    have HX := hide (show s.extract j k = str ((s.data.toList.drop j).take (k - j)) from Lib.extract_eq s j k)
    by_cases hlt : k < s.size
    · by_cases hc : (s[k].toNat : Int) = m.toNat
      · have hne : ((k : Int) == (s.size : Int)) = false := by simp; omega
        have HN := hide (cutAtC_hit HC.out hlt hj (by apply UInt8.toNat_inj.1; omega))
        go_wp2_with (at_builtin; refine wpList_append_one rfl (.tmp 26) (.tmp 31) 22 rfl w.heap.size 9 i1 (.string ⟨#[]⟩) 1 16 Try.underlying22 ki kz0 kz1 kz2 rfl (by decide) _ _ _ rfl HO.out rfl rfl (by intro u hu; simp at hu; subst hu; rfl) hm1 hm2 hsz ?_; intro v' w2 hown2 hkept; have O2 := hide hown2; have K2 := hide hkept; clear hown2 hkept)
        go_roundw
        case rel => exact ⟨k + 1, k + 1, q ++ [(s.data.toList.drop j).take (k - j)], by omega, by omega, by simp; omega, by go_num, by go_num, hide (OwnS.snoc O2.out HX.out), HN, hide (Kept.below_own HB.out hsz HO.out K2.out)⟩
        case measure => simp [intOf]; omega
      · have hne : ((k : Int) == (s.size : Int)) = false := by simp; omega
        have hne2 : ((s[k].toNat : Int) == (m.toNat : Int)) = false := by simp; omega
        have HN := hide (cutAtC_miss HC.out hlt hj (by intro e; apply hc; rw [e]))
        go_wp2
        go_roundw
        case rel => exact ⟨k + 1, j, q, by omega, by omega, by omega, by go_num, rfl, HO, HN, HB⟩
        case measure => simp [intOf]; omega
    · by_cases hk2 : k = s.size
      · subst hk2
        have HN := hide (show cutAtC m s.data.toList (q ++ [(s.data.toList.drop j).take (s.size - j)]) (s.size + 1) (s.size + 1) by have h := HC.out; rw [← HL.out] at h ⊢; exact cutAtC_end h)
        go_wp2_with (at_builtin; refine wpList_append_one rfl (.tmp 26) (.tmp 31) 22 rfl w.heap.size 9 i1 (.string ⟨#[]⟩) 1 16 Try.underlying22 ki kz0 kz1 kz2 rfl (by decide) _ _ _ rfl HO.out rfl rfl (by intro u hu; simp at hu; subst hu; rfl) hm1 hm2 hsz ?_; intro v' w2 hown2 hkept; have O2 := hide hown2; have K2 := hide hkept; clear hown2 hkept)
        go_roundw
        case rel => exact ⟨s.size + 1, s.size + 1, q ++ [(s.data.toList.drop j).take (s.size - j)], by omega, by omega, by simp; omega, by go_num, by go_num, hide (OwnS.snoc O2.out HX.out), HN, hide (Kept.below_own HB.out hsz HO.out K2.out)⟩
        case measure => simp [intOf]
      · have hk3 : ¬ (k : Int) ≤ (s.size : Int) := by omega
        have HN := hide (HC.out.2 (by rw [HL.out]; omega))
        go_wp2
        go_ret
        exact ⟨_, rfl, by rw [← HN.out]; exact HO.out, HB.out⟩


end Go.Proofs.Ytkimblnabbfkfaa

namespace Go.Proofs.Ytkimblnabbfkfaa
open Go.RowKit Go.Maps
set_option linter.unusedVariables false

theorem wpList_append_one_at {P : Program} {wr : World} {news : Array Value} {ops : Array Oper} {rest : List Oper} {o : Oper} {a : Act} {Q : Exit → Act → World → Prop} (hgd : o.guard = none) (s x : Operand) (t : TypeId)
    (ho : o.op = .call { callee := .builtin .append, args := #[s, x], argTypes := #[t, t] })
    (base : Nat) (e : TypeId) (i : TypeInfo) (z : Value) (size bytes : Nat) (ht : P.underlying t = some (.slice e)) (hi : P.info? e = some i) (hz : i.zero = some z)
    (hsize : i.size = size) (hby : i.bytes = bytes) (hzs : z.cells.size = size) (hsz : 0 < size)
    (v : Value) (n : Nat) (xs : List Value) (hs : a.eval s = v) (hown : wr.ownsRow base e size v n xs)
    (hx : a.eval x = .slice (some ⟨wr.heap.size, 0, none⟩) 1 1) (hl : news.size = size) (h1 : ∀ u ∈ news.toList, u.oneCell' = true)
    (h63 : n + 1 ≤ maxLen) (hbytes : (n + 1) * bytes ≤ 140737488355328) (hbase : base ≤ wr.heap.size)
    (h : ∀ v' w', w'.ownsRow base e size v' (n + 1) (xs ++ news.toList) → Kept (fun b => v.ownBlock = some b) wr w' → (v'.ownBlock = v.ownBlock ∨ ∃ g, v'.ownBlock = some g ∧ wr.heap.size ≤ g) → wpList P ops Q rest (a.put o.dst v') w') :
    wpList P ops Q (o :: rest) a (wr.alloc (.cells news e)) := by
  refine wpList_append_own_at _ hgd s x t ho base e i z size bytes ht hi hz hsize hby hzs hsz v n xs hs (hown.alloc _) ⟨wr.heap.size, 0, none⟩ 1 1 news.toList hx (by simp [hl]) ?_ h1 h63 hbytes (by simp; omega) ?_
  · intro j u hj
    have hadd : (⟨wr.heap.size, 0, none⟩ : Addr).add j = ⟨wr.heap.size, j, none⟩ := by unfold Addr.add; split <;> simp_all
    rw [hadd, cell_of_row _ wr.heap.size j news e (0, 0) (heap_alloc_new wr _)]
    simpa using hj
  · intro v' w' ho' hg _ hat
    refine h v' w' ho' ⟨hg.os, hg.tape, hg.output, Nat.le_trans (by simp) hg.size, fun k hk hn => ?_⟩ ?_
    · rw [hg.block k (by simp; omega) (fun e => hn e.symm)]
      exact Below.heap_alloc _ _ _ hk
    · rcases hat with hat | hat
      · exact .inl hat
      · exact .inr ⟨_, hat, by simp⟩
end Go.Proofs.Ytkimblnabbfkfaa

namespace Go.Proofs.Ytkimblnabbfkfaa
open Go.RowKit Go.Maps
set_option linter.unusedVariables false

theorem filter_step {cs : List Bs} {k : Nat} {p : Bs} (h : cs[k]? = some p) : (cs.take (k + 1)).filter (fun q => !q.isEmpty) = (cs.take k).filter (fun q => !q.isEmpty) ++ if p.isEmpty then [] else [p] := by
  rw [List.take_add_one, h, List.filter_append]
  congr 1
  cases p <;> rfl

set_option maxRecDepth 100000 in
set_option maxHeartbeats 1600000 in
theorem l15Words_any (s : ByteArray) (w : World) (hs : s.size ≤ 2097152) :
    Calls Try.prog 9 #[.string s] w fun e w' => ∃ v, e = .returned v ∧ OwnS w.heap.size w' v (wordsB s.data.toList) ∧ Below w.heap.size w w' := by
  obtain ⟨i1, ki, kz0, kz1, kz2⟩ := info_parts infoS
  have hl : s.data.toList.length = s.size := (Lib.size_eq s).symm
  have hcl := cutC_length (m := 32) s.data.toList
  rw [hl] at hcl
  have O1 := hide (show OwnS w.heap.size (w.alloc (.cells #[] 9)) (.slice (some ⟨w.heap.size, 0, none⟩) 0 0) [] from World.ownsRow_made (base := w.heap.size) (e := 9) (size := 1) w #[] 0 (Nat.le_refl _) (Nat.zero_le _) rfl)
  clear hl
  go_enter Try.func9, Try.ntmps9
  go_wp2_with fail
  refine (l3CutC_any 32 s _ hs).mono ?_
  rintro e w1 ⟨v, rfl, hO, hb⟩
  obtain ⟨ca, cc, rfl⟩ := hO.shape
  have RD := hide hO.reads
  have HCB := hide (show ∀ x, ca = some x → w.heap.size < x.block ∧ x.block < w1.heap.size from fun x hx => by
    subst hx
    have := hO.lt x.block rfl
    simp at this
    omega)
  have O2 := hide (O1.out.below hb)
  have B2 := hide (below_next (below_alloc w _) hb)
  clear hb hO O1
  obtain ⟨CS, hCS⟩ : ∃ CS, CS = cutC 32 s.data.toList := ⟨_, rfl⟩
  rw [← hCS] at RD hcl
  have HW := hide (show wordsB s.data.toList = CS.filter (fun q => !q.isEmpty) by rw [hCS]; rfl)
  rw [← hCS]
  clear hCS
  go_wp2_with fail
  go_loopw [3, 5] (fun v i wr => ∃ (k : Nat), k ≤ CS.length ∧ i = .int .i64 k ∧ Hid (OwnS w.heap.size wr v ((CS.take k).filter (fun q => !q.isEmpty))) ∧ Hid (ReadsS wr ca CS) ∧ Hid (∀ x, ca = some x → ∀ g, v.ownBlock = some g → g ≠ x.block) ∧ Hid (∀ x, ca = some x → x.block < wr.heap.size) ∧ Hid (Below w.heap.size w wr)) (fun _ i _ => CS.length - (intOf i).toNat)
  case atStart => exact ⟨0, by omega, rfl, hide (by simpa using O2.out), RD, hide (fun x hx g hg e => by have := (HCB.out x hx).1; simp [Value.ownBlock] at hg; omega), hide (fun x hx => (HCB.out x hx).2), B2⟩
  case round =>
    obtain ⟨k, hk, rfl, HO, HR, HA, HL, HB⟩ := hrel
    obtain ⟨va, vc, rfl⟩ := HO.out.shape
    have hsz := HB.out.size
    by_cases hlt : k < CS.length
    · have hlt2 : (k : Int) < (CS.length : Int) := by omega
      obtain ⟨b, off, p, hca, hbl, hp, hc⟩ := HR.out.at hlt
      subst hca
      have hfl : ((CS.take k).filter (fun q => !q.isEmpty)).length ≤ k := Nat.le_trans (List.length_filter_le _ _) (by simp; omega)
      have HST := hide (filter_step hp)
      by_cases hpe : p = []
      · subst hpe
        have hq0 : ((str []).toList == []) = true := by rw [ByteArray.toList_eq, str_data]; rfl
        have hq1 : (str []).toList.isEmpty = true := by rw [ByteArray.toList_eq, str_data]; rfl
        go_wp2_with fail
        go_roundw
        case rel => exact ⟨k + 1, by omega, by go_num, by rw [HST.out]; simpa using HO, HR, HA, HL, HB⟩
        case measure => simp [intOf]; omega
      · have hq0 : ((str p).toList == []) = false := by rw [ByteArray.toList_eq, str_data]; cases p with | nil => exact absurd rfl hpe | cons _ _ => rfl
        have hq1 : (str p).toList.isEmpty = false := by rw [ByteArray.toList_eq, str_data]; cases p with | nil => exact absurd rfl hpe | cons _ _ => rfl
        have hpi : p.isEmpty = false := by cases p with | nil => exact absurd rfl hpe | cons _ _ => rfl
        rw [hpi] at HST
        generalize hF : (CS.take k).filter (fun q => !q.isEmpty) = F at *
        clear hF
        have hm1 : F.length + 1 ≤ maxLen := by unfold maxLen; omega
        have hm2 : (F.length + 1) * 16 ≤ 140737488355328 := by omega
        go_wp2_with (at_builtin; refine wpList_append_one_at rfl (.tmp 20) (.tmp 25) 22 rfl w.heap.size 9 i1 (.string ⟨#[]⟩) 1 16 Try.underlying22 ki kz0 kz1 kz2 rfl (by decide) _ _ _ rfl HO.out rfl rfl (by intro u hu; simp at hu; subst hu; rfl) hm1 hm2 hsz ?_; intro v' w7 hown7 hkept hat; have O7 := hide hown7; have K7 := hide hkept; have A7 := hide hat; clear hown7 hkept hat)
        go_roundw
        case rel =>
          refine ⟨k + 1, by omega, by go_num, by rw [HST.out]; exact hide (OwnS.snoc O7.out rfl), hide ?_, hide ?_, hide (fun x hx => Nat.lt_of_lt_of_le (HL.out x hx) K7.out.size), hide (Kept.below_own HB.out hsz HO.out K7.out)⟩
          · exact HR.out.kept K7.out (fun hz x hx e => HA.out x hx _ e rfl)
          · intro x hx g hg e9
            rcases A7.out with e | ⟨g2, e, hg2⟩
            · exact HA.out x hx g (e.symm.trans hg) e9
            · rw [e] at hg
              have := Option.some.inj hg
              have := HL.out x hx
              omega
        case measure => simp [intOf]; omega
    · have hke : CS.take k = CS := List.take_of_length_le (by omega)
      have hlt2 : ¬ (k : Int) < (CS.length : Int) := by omega
      rw [hke] at HO
      rw [hke]
      clear hke
      go_wp2_with fail
      go_ret
      exact ⟨_, rfl, by rw [HW.out]; exact HO.out, HB.out⟩

set_option maxRecDepth 100000 in
set_option maxHeartbeats 800000 in
theorem specWordsOf_any (s : ByteArray) (w : World) (hs : s.size ≤ 2097152) :
    Calls Try.prog 4 #[.string s] w fun e w' => ∃ a c, e = .returned (.agg #[.int .i64 0, .slice a (wordsB s.data.toList).length c]) ∧ OwnS w.heap.size w' (.slice a (wordsB s.data.toList).length c) (wordsB s.data.toList) ∧ Below w.heap.size w w' := by
  go_enter Try.func4, Try.ntmps4
  go_wp2_with fail
  refine (l15Words_any s _ hs).mono ?_
  rintro e w1 ⟨v, rfl, hO, hb⟩
  obtain ⟨a, c, rfl⟩ := hO.shape
  have X0 := hide ((Box.new w (.int .i64 0) (.slice none 0 0) 24).below hb)
  have HO := hide hO
  have HS0 := hide (show (w.alloc (.cells #[.int .i64 0, .slice none 0 0] 24)).heap.size = w.heap.size + 1 by simp)
  have HB2 := hide (below_next (below_alloc w _) hb)
  have n1 : w.heap.size < w1.heap.size := by have := hb.size; simp at this; omega
  clear hO hb
  obtain ⟨⟨q0, q1⟩, q2, q3⟩ := X0.out
  go_wp2_with fail
  refine bodyPost_ret (v := .agg #[.int .i64 0, .slice a (wordsB s.data.toList).length c]) (by simp [results, Try.results4, go_sem, q0, q1]) rfl ⟨_, _, rfl, ?_, (HB2.out.setCell (Nat.le_refl _) _).setCell (Nat.le_refl _) _⟩
  exact (HO.out.kept (Kept.two _ w.heap.size 0 1 _ _) (fun b hb e => by have := (HO.out.lt b hb).1; have := HS0.out; omega)).mono (by have := HS0.out; omega)
end Go.Proofs.Ytkimblnabbfkfaa

namespace Go.Proofs.Ytkimblnabbfkfaa
open Go.RowKit
set_option linter.unusedVariables false

theorem str_append (a b : Bs) : str a ++ str b = str (a ++ b) := by
  apply ByteArray.ext
  simp [str]
end Go.Proofs.Ytkimblnabbfkfaa

namespace Go.Proofs.Ytkimblnabbfkfaa
open Go.RowKit
set_option linter.unusedVariables false


theorem clone_str (s : ByteArray) (w : World) (hl : s.size ≤ 281474976710656) :
    Calls Try.prog 11 #[.string s] w fun e w' => e = .returned (.string s) ∧ Below w.heap.size w w' := by
  have H := hide (fun w => Any.stringslite_Clone Try.cloneA s w hl)
  go_enter Try.func11, Try.ntmps11
  go_wp2_with fail
  refine (H.out _).mono ?_
  rintro e w1 ⟨rfl, hb1⟩
  go_wp2_with fail
  go_ret
  exact ⟨rfl, hb1⟩


end Go.Proofs.Ytkimblnabbfkfaa

namespace Go.Proofs.Ytkimblnabbfkfaa
open Go.RowKit Go.Maps
set_option linter.unusedVariables false

set_option maxRecDepth 100000 in
theorem isBlank_any (x : Nat) (W : World) : FnGives Try.prog 17 #[] #[encR x] (.bool (isBlank x)) W := by
  show Calls Try.prog 17 #[.int .i32 (x : Int)] W _
  have hb : isBlank x = ((x : Int) == 32) := by
    unfold isBlank
    by_cases h : x = 32
    · subst h; rfl
    · have : ¬ (x : Int) = 32 := by omega
      simp [h, this]
  rw [hb]
  go_enter Try.func17, Try.ntmps17
  go_wp2
  go_ret
  exact ⟨rfl, 0, rfl⟩

set_option maxRecDepth 100000 in
set_option maxHeartbeats 800000 in
theorem wordsIn_any (s : ByteArray) (w : World) (hs : s.size ≤ 2097152) :
    Calls Try.prog 10 #[.string s] w fun e w' => ∃ a, e = .returned (.slice a (wordsB s.data.toList).length (wordsB s.data.toList).length) ∧ OwnS w.heap.size w' (.slice a (wordsB s.data.toList).length (wordsB s.data.toList).length) (wordsB s.data.toList) ∧ Below w.heap.size w w' := by
  have HF := hide (Any.strings_FieldsFunc Try.fieldsA 17 #[] (enters_of Try.func17 (by kernel_rfl) rfl) isBlank s w (by omega) (fun W x _ => isBlank_any x W) (by kernel_rfl) (by kernel_rfl))
  rw [fields_words, List.length_map, List.map_map] at HF
  go_enter Try.func10, Try.ntmps10
  go_wp2_with fail
  refine HF.out.mono ?_
  rintro e w1 ⟨A, rfl, hA, hO, hb⟩
  have HO := hide hO
  have HB := hide hb
  clear hO hb HF
  go_wp2_with fail
  go_ret
  exact ⟨_, rfl, HO.out, HB.out⟩

set_option maxRecDepth 100000 in
set_option maxHeartbeats 1600000 in
theorem implWordsOf_any (s : ByteArray) (w : World) (hs : s.size ≤ 2097152) :
    Calls Try.prog 5 #[.string s] w fun e w' => ∃ a c, e = .returned (.agg #[.int .i64 0, .slice a (wordsB s.data.toList).length c]) ∧ OwnS w.heap.size w' (.slice a (wordsB s.data.toList).length c) (wordsB s.data.toList) ∧ Below w.heap.size w w' := by
  obtain ⟨i1, ki, kz0, kz1, kz2⟩ := info_parts infoS
  have hl : s.data.toList.length = s.size := (Lib.size_eq s).symm
  have hcl := wordsB_length s.data.toList
  have hce := wordsB_each s.data.toList
  rw [hl] at hcl hce
  clear hl
  go_enter Try.func5, Try.ntmps5
  go_wp2_with fail
  refine (wordsIn_any s _ hs).mono ?_
  rintro e w1 ⟨ca, rfl, hO, hb⟩
  have X0 := hide ((Box.new w (.int .i64 0) (.slice none 0 0) 24).below hb)
  have n1 : w.heap.size < w1.heap.size := by have := hb.size; simp at this; omega
  have RD := hide hO.reads
  have HCB := hide (show ∀ x, ca = some x → x.block < w1.heap.size from fun x hx => by
    subst hx
    exact (hO.lt x.block rfl).2)
  have B1 := hide (below_next (below_alloc w _) hb)
  clear hb hO
  obtain ⟨CS, hCS⟩ : ∃ CS, CS = wordsB s.data.toList := ⟨_, rfl⟩
  rw [← hCS] at hcl hce RD ⊢
  have HCS := hide hCS
  clear hCS
  have HCE := hide hce
  clear hce
  go_wp2_with fail
  go_loopw [3, 9] (fun v i wr => ∃ (k : Nat), k ≤ CS.length ∧ i = .int .i64 k ∧ Hid (OwnS w1.heap.size wr v (CS.take k)) ∧ Hid (Below w1.heap.size w1 wr)) (fun _ i _ => CS.length - (intOf i).toNat)
  case atStart => exact ⟨0, by omega, rfl, hide (OwnS.nil _ _), hide (Below.refl _ _)⟩
  case round =>
    obtain ⟨k, hk, rfl, HO, HB⟩ := hrel
    obtain ⟨va, vc, rfl⟩ := HO.out.shape
    have hsz := HB.out.size
    by_cases hlt : k < CS.length
    · have hlt2 : (k : Int) < (CS.length : Int) := by omega
      have HR := hide (RD.out.below HB.out)
      obtain ⟨b, off, p, hca, hbl, hp, hc⟩ := HR.out.at hlt
      subst hca
      have hpl : p.length ≤ s.size := HCE.out p (List.mem_of_getElem? hp)
      have HST := hide (show CS.take (k + 1) = CS.take k ++ [p] by rw [List.take_add_one, hp]; rfl)
      have hfl : (CS.take k).length ≤ k := by simp; omega
      have hps : (str p).size ≤ 281474976710656 := by rw [str_size]; omega
      generalize CS.take k = F at *
      have hm1 : F.length + 1 ≤ maxLen := by unfold maxLen; omega
      have hm2 : (F.length + 1) * 16 ≤ 140737488355328 := by omega
      go_wp2_with fail
      refine (clone_str (str p) _ hps).mono ?_
      rintro e w2 ⟨rfl, hb2⟩
      have O2 := hide (HO.out.below hb2)
      have B2 := hide (HB.out.trans (hb2.mono hsz))
      have hsz2 := B2.out.size
      clear hb2
      go_wp2_with (at_builtin; refine wpList_append_one rfl (.tmp 13) (.tmp 16) 22 rfl w1.heap.size 9 i1 (.string ⟨#[]⟩) 1 16 Try.underlying22 ki kz0 kz1 kz2 rfl (by decide) _ _ _ rfl O2.out rfl rfl (by intro u hu; simp at hu; subst hu; rfl) hm1 hm2 hsz2 ?_; intro v' w7 hown7 hkept; have O7 := hide hown7; have K7 := hide hkept; clear hown7 hkept)
      go_roundw
      case rel => exact ⟨k + 1, by omega, by go_num, by rw [HST.out]; exact hide (OwnS.snoc O7.out rfl), hide (Kept.below_own B2.out hsz2 O2.out K7.out)⟩
      case measure => simp [intOf]; omega
    · have hke : CS.take k = CS := List.take_of_length_le (by omega)
      have hlt2 : ¬ (k : Int) < (CS.length : Int) := by omega
      rw [hke] at HO
      rw [hke]
      clear hke
      have X1 := hide (X0.out.below HB.out)
      have HB2 := hide (below_next B1.out HB.out)
      obtain ⟨⟨q0, q1⟩, q2, q3⟩ := X1.out
      go_wp2_with fail
      have hcs := HCS.out
      subst hcs
      refine bodyPost_ret (v := .agg #[.int .i64 0, .slice va (wordsB s.data.toList).length vc]) (by simp [results, Try.results5, go_sem, q0, q1]) rfl ⟨_, _, rfl, ?_, (HB2.out.setCell (Nat.le_refl _) _).setCell (Nat.le_refl _) _⟩
      exact (HO.out.kept (Kept.two _ w.heap.size 0 1 _ _) (fun b hb e => by have := (HO.out.lt b hb).1; omega)).mono (by omega)
end Go.Proofs.Ytkimblnabbfkfaa

