/-
  Texts put together: Mem LogL Bytes Digest BytesR AppL LogP.
-/
import Derived.Test.YtpikgmbjgfdcfabRows
import Derived.WalkKit
import Derived.WalkSpells
import Derived.WalkLawsBesides
import Derived.Deep.OwnRows
import Derived.BigQuiet
import Derived.Deep.QuietTactic
import Derived.Carry
import Derived.Maps.AppendAt
import Derived.Lib.AppendStr
import Derived.Laws.IdiomStrings
namespace Go.Proofs.Ytpikgmbjgfdcfab
open Go.RowKit
set_option linter.unusedVariables false

theorem hide {p : Prop} (h : p) : Hid p := h

theorem ret_bool {a b : Bool} (h : a = b) : Ending.returned (.bool a) = .returned (.bool b) := by rw [h]
theorem ret_int {k : IntKind} {a b : Int} (h : a = b) : Ending.returned (.int k a) = .returned (.int k b) := by rw [h]

def Reads (k : IntKind) (w : World) (a : Option Addr) (zs : List Int) : Prop :=
  zs ≠ [] → ∃ b off, a = some ⟨b, off, none⟩ ∧ b < w.heap.size ∧ ∀ i, i < zs.length → w.cell? ⟨b, off + i, none⟩ = some (.int k (zs.getD i 0))

structure Kept (S : Nat → Prop) (w w' : World) : Prop where
  os : w'.os = w.os
  tape : w'.tape = w.tape
  output : w'.output = w.output
  size : w.heap.size ≤ w'.heap.size
  block : ∀ k, k < w.heap.size → ¬ S k → w'.heap[k]? = w.heap[k]?

namespace Kept
variable {S T : Nat → Prop} {w w' w'' : World}
theorem refl (S : Nat → Prop) (w : World) : Kept S w w := ⟨rfl, rfl, rfl, Nat.le_refl _, fun _ _ _ => rfl⟩
theorem trans (h : Kept S w w') (k : Kept S w' w'') : Kept S w w'' :=
  ⟨k.os.trans h.os, k.tape.trans h.tape, k.output.trans h.output, Nat.le_trans h.size k.size, fun i hi hn => (k.block i (Nat.lt_of_lt_of_le hi h.size) hn).trans (h.block i hi hn)⟩
theorem mono (h : Kept S w w') (hs : ∀ k, k < w.heap.size → S k → T k) : Kept T w w' := ⟨h.os, h.tape, h.output, h.size, fun k hk hn => h.block k hk (fun hS => hn (hs k hk hS))⟩
theorem setCell (h : Kept S w w') {p : Addr} (hp : p.block < w.heap.size → S p.block) (u : Value) : Kept S w (w'.setCell p u) :=
  ⟨h.os, h.tape, h.output, Nat.le_trans h.size (by simp [World.setCell]), fun k hk hn => (Below.heap_setCell _ _ _ _ (fun e => by subst e; exact hn (hp hk))).trans (h.block k hk hn)⟩
theorem cell (h : Kept S w w') {p : Addr} (hp : p.block < w.heap.size) (hn : ¬ S p.block) : w'.cell? p = w.cell? p := World.cell?_of_block (w := w) (h.block _ hp hn)
theorem frozen (h : Kept S w w') {p : Addr} (hp : p.block < w.heap.size) (hn : ¬ S p.block) : w'.frozen? p = w.frozen? p := World.frozen?_of_block (w := w) (h.block _ hp hn)
theorem below (h : Kept S w w') {B : Nat} (hB : B ≤ w.heap.size) (hS : ∀ k, k < B → ¬ S k) : Below B w w' := ⟨h.os, h.tape, h.output, h.size, fun k hk => h.block k (by omega) (hS k hk)⟩
theorem of_below (h : Below w.heap.size w w') : Kept S w w' := ⟨h.os, h.tape, h.output, h.size, fun k hk _ => h.block k hk⟩
end Kept

theorem Kept.two (w : World) (b i j : Nat) (u v : Value) : Kept (fun x => x = b) w ((w.setCell ⟨b, i, none⟩ u).setCell ⟨b, j, none⟩ v) :=
  Kept.setCell (S := fun x => x = b) (p := ⟨b, j, none⟩) (Kept.setCell (S := fun x => x = b) (p := ⟨b, i, none⟩) (Kept.refl _ w) (fun _ => rfl) u) (fun _ => rfl) v

def Two (w : World) (b : Nat) (u v : Value) : Prop := w.cell? ⟨b, 0, none⟩ = some u ∧ w.cell? ⟨b, 1, none⟩ = some v
theorem Two.lt {w : World} {b : Nat} {u v : Value} (h : Two w b u v) : b < w.heap.size := World.block_lt_of_cell? w ⟨b, 0, none⟩ h.1
theorem Two.kept {S : Nat → Prop} {w w' : World} {b : Nat} {u v : Value} (h : Two w b u v) (hk : Kept S w w') (hn : ¬ S b) : Two w' b u v :=
  ⟨(hk.cell (p := ⟨b, 0, none⟩) h.lt hn).trans h.1, (hk.cell (p := ⟨b, 1, none⟩) h.lt hn).trans h.2⟩
theorem Two.below {w w' : World} {b : Nat} {u v : Value} (h : Two w b u v) (hk : Below w.heap.size w w') : Two w' b u v :=
  h.kept (S := fun _ => False) (Kept.of_below hk) id
theorem Two.new (w : World) (u v : Value) (t : TypeId) : Two (w.alloc (.cells #[u, v] t)) w.heap.size u v := ⟨by simp, by simp⟩
def Box (w : World) (b : Nat) (u v : Value) : Prop := Two w b u v ∧ w.frozen? ⟨b, 0, none⟩ = false ∧ w.frozen? ⟨b, 1, none⟩ = false
theorem Box.kept {S : Nat → Prop} {w w' : World} {b : Nat} {u v : Value} (h : Box w b u v) (hk : Kept S w w') (hn : ¬ S b) : Box w' b u v :=
  ⟨h.1.kept hk hn, (hk.frozen (p := ⟨b, 0, none⟩) h.1.lt hn).trans h.2.1, (hk.frozen (p := ⟨b, 1, none⟩) h.1.lt hn).trans h.2.2⟩
theorem Box.below {w w' : World} {b : Nat} {u v : Value} (h : Box w b u v) (hk : Below w.heap.size w w') : Box w' b u v :=
  h.kept (S := fun _ => False) (Kept.of_below hk) id
theorem Box.new (w : World) (u v : Value) (t : TypeId) : Box (w.alloc (.cells #[u, v] t)) w.heap.size u v := ⟨Two.new w u v t, by simp, by simp⟩
theorem below_alloc (w : World) (o : Obj) : Below w.heap.size w (w.alloc o) := (Below.refl _ _).alloc (Nat.le_refl _) _
theorem below_next {w w' w'' : World} (h : Below w.heap.size w w') (k : Below w'.heap.size w' w'') : Below w.heap.size w w'' := h.trans (k.mono h.size)

theorem Reads.kept {k : IntKind} {S : Nat → Prop} {w w' : World} {a : Option Addr} {zs : List Int} (h : Reads k w a zs) (hk : Kept S w w') (hn : zs ≠ [] → ∀ x, a = some x → ¬ S x.block) : Reads k w' a zs := by
  intro hz
  obtain ⟨b, off, rfl, hb, hc⟩ := h hz
  exact ⟨b, off, rfl, Nat.lt_of_lt_of_le hb hk.size, fun i hi => (hk.cell (p := ⟨b, off + i, none⟩) hb (hn hz ⟨b, off, none⟩ rfl)).trans (hc i hi)⟩

theorem Reads.below {k : IntKind} {w w' : World} {a : Option Addr} {zs : List Int} (h : Reads k w a zs) (hk : Below w.heap.size w w') : Reads k w' a zs :=
  h.kept (S := fun _ => False) (Kept.of_below hk) (fun _ _ _ => id)

theorem Reads.row {k : IntKind} {w : World} {b : Nat} {t : TypeId} {n : Nat} {f : Nat → Value} {zs : List Int} (h : w.rowIs b t n f) (hn : zs.length ≤ n) (hf : ∀ i, i < zs.length → f i = .int k (zs.getD i 0)) : Reads k w (some ⟨b, 0, none⟩) zs :=
  fun _ => ⟨b, 0, rfl, h.lt, fun i hi => by rw [Nat.zero_add, h.cell (by omega), hf i hi]⟩

def U8 (zs : List Int) : Prop := ∀ z ∈ zs, 0 ≤ z ∧ z ≤ 255
theorem U8.get {zs : List Int} (h : U8 zs) (i : Nat) : 0 ≤ zs.getD i 0 ∧ zs.getD i 0 ≤ 255 := by
  by_cases hi : i < zs.length
  · have e : zs.getD i 0 = zs[i] := by simp [List.getD_eq_getElem?_getD, hi]
    rw [e]; exact h _ (List.getElem_mem hi)
  · have e : zs.getD i 0 = 0 := by simp [List.getD_eq_getElem?_getD, List.getElem?_eq_none (Nat.le_of_not_lt hi)]
    rw [e]; omega

theorem reads_of_row {W : World} {x : Addr} {l c : Nat} {zs : List Int} (hz : zs.length = c) (hl : l ≤ c) (hm : c ≤ maxLen) (hcell : ∀ i, i < zs.length → W.cell? (x.add i) = some (.int .u8 (zs.getD i 0))) (hwz : ∀ n ∈ zs, (Lit.int .u8 n).wf = true) :
    ∃ ys : List Int, ys.length = l ∧ Reads .u8 W (some x) ys ∧ U8 ys ∧ ys.length ≤ maxLen := by
  have hlen : (zs.take l).length = l := by simp; omega
  refine ⟨zs.take l, hlen, ?_, ?_, by omega⟩
  · intro hne
    have h0 : 0 < l := by
      rcases Nat.eq_zero_or_pos l with h | h
      · subst h; exact absurd rfl hne
      · exact h
    obtain ⟨b, off, spot⟩ := x
    have hc := hcell 0 (by omega)
    have hspot : spot = none := by simpa [Addr.add] using World.cell?_spot hc
    subst hspot
    refine ⟨b, off, rfl, World.block_lt_of_cell? W _ (by simpa [Addr.add] using hc), fun i hi => ?_⟩
    have := hcell i (by omega)
    have e : (zs.take l).getD i 0 = zs.getD i 0 := by
      have h2 : i < l := by omega
      simp [List.getD_eq_getElem?_getD, h2]
    rw [e]
    have ea : (⟨b, off, none⟩ : Addr).add i = ⟨b, off + i, none⟩ := by unfold Addr.add; split <;> simp_all
    rw [ea] at this
    exact this
  · intro z hz'
    have := hwz z (List.mem_of_mem_take hz')
    simp [Lit.wf, IntKind.min, IntKind.max, IntKind.signed, IntKind.bits] at this
    omega

theorem row_step {wr : World} {B : Nat} {t : TypeId} {n k : Nat} {f z : Nat → Value} (hrow : wr.rowIs B t n (fun j => if j < k then f j else z j)) :
    (wr.setCell ⟨B, k, none⟩ (f k)).rowIs B t n (fun j => if j < k + 1 then f j else z j) :=
  (hrow.set k (f k)).congr (fun i hi => by
    by_cases e : i = k
    · subst e; simp
    · by_cases e2 : i < k
      · simp [e, e2, Nat.lt_succ_of_lt e2]
      · have : ¬ i < k + 1 := by omega
        simp [e, e2, this])


theorem cell_set_same {w : World} {a : Addr} {v u : Value} (h : w.cell? a = some u) : (w.setCell a v).cell? a = some v :=
  World.cell?_setCell_same' w a v (by rw [h]; rfl)
theorem cell_set_other {w : World} {a b : Addr} {v : Value} (h : a ≠ b) : (w.setCell a v).cell? b = w.cell? b := by
  apply World.cell?_setCell_other; exact h
theorem wpList_append_one {P : Program} {wr : World} {news : Array Value} {ops : Array Oper} {rest : List Oper} {o : Oper} {a : Act} {Q : Exit → Act → World → Prop} (hgd : o.guard = none) (s x : Operand) (t : TypeId)
    (ho : o.op = .call { callee := .builtin .append, args := #[s, x], argTypes := #[t, t] })
    (base : Nat) (e : TypeId) (i : TypeInfo) (z : Value) (size bytes : Nat) (ht : P.underlying t = some (.slice e)) (hi : P.info? e = some i) (hz : i.zero = some z)
    (hsize : i.size = size) (hby : i.bytes = bytes) (hzs : z.cells.size = size) (hsz : 0 < size)
    (v : Value) (n : Nat) (xs : List Value) (hs : a.eval s = v) (hown : wr.ownsRow base e size v n xs)
    (hx : a.eval x = .slice (some ⟨wr.heap.size, 0, none⟩) 1 1) (hl : news.size = size) (h1 : ∀ u ∈ news.toList, u.oneCell' = true)
    (h63 : n + 1 ≤ maxLen) (hbytes : (n + 1) * bytes ≤ 140737488355328) (hbase : base ≤ wr.heap.size)
    (h : ∀ v' w', w'.ownsRow base e size v' (n + 1) (xs ++ news.toList) → Kept (fun b => v.ownBlock = some b) wr w' → wpList P ops Q rest (a.put o.dst v') w') :
    wpList P ops Q (o :: rest) a (wr.alloc (.cells news e)) := by
  refine wpList_append_own _ hgd s x t ho base e i z size bytes ht hi hz hsize hby hzs hsz v n xs hs (hown.alloc _) ⟨wr.heap.size, 0, none⟩ 1 1 news.toList hx (by simp [hl]) ?_ h1 h63 hbytes (by simp; omega) ?_
  · intro j u hj
    have hadd : (⟨wr.heap.size, 0, none⟩ : Addr).add j = ⟨wr.heap.size, j, none⟩ := by unfold Addr.add; split <;> simp_all
    rw [hadd, cell_of_row _ wr.heap.size j news e (0, 0) (heap_alloc_new wr _)]
    simpa using hj
  · intro v' w' ho' hg _
    refine h v' w' ho' ⟨hg.os, hg.tape, hg.output, Nat.le_trans (by simp) hg.size, fun k hk hn => ?_⟩
    rw [hg.block k (by simp; omega) (fun e => hn e.symm)]
    exact Below.heap_alloc _ _ _ hk

theorem Kept.below_own {w w' wr : World} {B : Nat} {v : Value} {e : TypeId} {size n : Nat} {xs : List Value} (hb : Below B w wr) (hB : B ≤ wr.heap.size) (hown : wr.ownsRow B e size v n xs) (hk : Kept (fun b => v.ownBlock = some b) wr w') : Below B w w' :=
  hb.trans (hk.below hB (fun k hk' he => by have := (hown.lt k he).1; omega))

theorem ownsRow_kept {S : Nat → Prop} {w w' : World} {base : Nat} {e : TypeId} {size : Nat} {v : Value} {n : Nat} {xs : List Value} (h : w.ownsRow base e size v n xs) (hk : Kept S w w') (hn : ∀ b, v.ownBlock = some b → ¬ S b) : w'.ownsRow base e size v n xs := by
  refine ⟨h.1, ?_⟩
  rcases h.2 with hz | ⟨g, cap, cur, rfl, hb, hgg, rest⟩
  · exact .inl hz
  · refine .inr ⟨g, cap, cur, rfl, hb, ?_, rest⟩
    rw [hk.block g (Array.getElem?_eq_some_iff.1 hgg).1 (hn g rfl)]
    exact hgg
theorem ownsRow_below {w w' : World} {base : Nat} {e : TypeId} {size : Nat} {v : Value} {n : Nat} {xs : List Value} (h : w.ownsRow base e size v n xs) (hk : Below w.heap.size w w') : w'.ownsRow base e size v n xs :=
  ownsRow_kept (S := fun _ => False) h (Kept.of_below hk) (fun _ _ => id)
theorem ownsRow_mono {w : World} {base base' : Nat} {e : TypeId} {size : Nat} {v : Value} {n : Nat} {xs : List Value} (h : w.ownsRow base e size v n xs) (hb : base' ≤ base) : w.ownsRow base' e size v n xs := by
  refine ⟨h.1, ?_⟩
  rcases h.2 with hz | ⟨g, cap, cur, hv, hg, rest⟩
  · exact .inl hz
  · exact .inr ⟨g, cap, cur, hv, by omega, rest⟩
theorem ownsRow_shape {w : World} {base : Nat} {e : TypeId} {size : Nat} {v : Value} {n : Nat} {xs : List Value} (h : w.ownsRow base e size v n xs) : ∃ a c, v = .slice a n c := by
  rcases h.2 with ⟨rfl, rfl⟩ | ⟨g, cap, cur, rfl, _⟩
  · exact ⟨_, _, rfl⟩
  · exact ⟨_, _, rfl⟩
def Own (k : IntKind) (w : World) (a : Option Addr) (zs : List Int) : Prop :=
  zs ≠ [] → ∃ b off, a = some ⟨b, off, none⟩ ∧ b < w.heap.size ∧ ∀ i, i < zs.length → w.cell? ⟨b, off + i, none⟩ = some (.int k (zs.getD i 0)) ∧ w.frozen? ⟨b, off + i, none⟩ = false
def blkOf (a : Option Addr) (b : Nat) : Prop := a.map Addr.block = some b

theorem Own.reads {k : IntKind} {w : World} {a : Option Addr} {zs : List Int} (h : Own k w a zs) : Reads k w a zs := by
  intro hz
  obtain ⟨b, off, e, hb, hc⟩ := h hz
  exact ⟨b, off, e, hb, fun i hi => (hc i hi).1⟩
theorem Own.kept {k : IntKind} {S : Nat → Prop} {w w' : World} {a : Option Addr} {zs : List Int} (h : Own k w a zs) (hk : Kept S w w') (hn : ∀ b, blkOf a b → ¬ S b) : Own k w' a zs := by
  intro hz
  obtain ⟨b, off, rfl, hb, hc⟩ := h hz
  have hnb : ¬ S b := hn b rfl
  exact ⟨b, off, rfl, Nat.lt_of_lt_of_le hb hk.size, fun i hi => ⟨(hk.cell (p := ⟨b, off + i, none⟩) hb hnb).trans (hc i hi).1, (hk.frozen (p := ⟨b, off + i, none⟩) hb hnb).trans (hc i hi).2⟩⟩
theorem Own.below {k : IntKind} {w w' : World} {a : Option Addr} {zs : List Int} (h : Own k w a zs) (hk : Below w.heap.size w w') : Own k w' a zs :=
  h.kept (S := fun _ => False) (Kept.of_below hk) (fun _ _ => id)
theorem Own.row {k : IntKind} {w : World} {b : Nat} {t : TypeId} {n : Nat} {f : Nat → Value} {zs : List Int} (h : w.rowIs b t n f) (hn : zs.length ≤ n) (hf : ∀ i, i < zs.length → f i = .int k (zs.getD i 0)) : Own k w (some ⟨b, 0, none⟩) zs :=
  fun _ => ⟨b, 0, rfl, h.lt, fun i hi => ⟨by rw [Nat.zero_add, h.cell (by omega), hf i hi], h.frozen _⟩⟩

def SameShape (w w' : World) : Prop := ∀ (g : Nat) (cur : Array Value) (t : TypeId), w.heap[g]? = some (.cells cur t (0, 0)) → ∃ cur' : Array Value, w'.heap[g]? = some (.cells cur' t (0, 0)) ∧ cur'.size = cur.size
theorem SameShape.refl (w : World) : SameShape w w := fun _ cur _ h => ⟨cur, h, rfl⟩
theorem SameShape.trans {w w' w'' : World} (h : SameShape w w') (k : SameShape w' w'') : SameShape w w'' := fun g cur t e => by
  obtain ⟨c1, e1, s1⟩ := h g cur t e
  obtain ⟨c2, e2, s2⟩ := k g c1 t e1
  exact ⟨c2, e2, s2.trans s1⟩
theorem SameShape.setCell {w w' : World} (h : SameShape w w') (b o : Nat) (v : Value) : SameShape w (w'.setCell ⟨b, o, none⟩ v) := by
  refine h.trans fun g cur t e => ?_
  by_cases hg : g = b
  · subst hg
    exact ⟨cur.setIfInBounds o v, heap_setCell_same w' g o cur t v e, by simp⟩
  · exact ⟨cur, (heap_setCell_other w' ⟨b, o, none⟩ g v hg).trans e, rfl⟩
theorem own_back {w w' : World} {B : Nat} {e : TypeId} {g n cap : Nat} {xs ys : List Value} (h : w.ownsRow B e 1 (.slice (some ⟨g, 0, none⟩) n cap) n xs) (hs : SameShape w w') (hy : ys.length = n) (hc : ∀ i, i < n → w'.cell? ⟨g, i, none⟩ = ys[i]?) :
    w'.ownsRow B e 1 (.slice (some ⟨g, 0, none⟩) n cap) n ys := by
  refine ⟨by omega, .inr ?_⟩
  rcases h.2 with ⟨h', _⟩ | ⟨g', cap', cur, h', hb, hh, hnc, hcm, hcs, htake⟩
  · simp at h'
  · simp only [Value.slice.injEq, Option.some.injEq, Addr.mk.injEq, and_true, true_and] at h'
    obtain ⟨rfl, rfl⟩ := h'
    obtain ⟨cur', e', s'⟩ := hs g cur e hh
    refine ⟨g, cap, cur', rfl, hb, e', hnc, hcm, by omega, ?_⟩
    apply List.ext_getElem?
    intro i
    by_cases hi : i < n
    · have := hc i hi
      rw [cell_of_row w' g i cur' e (0, 0) e'] at this
      rw [List.getElem?_take, if_pos (by omega), ← this]
      simp
    · rw [List.getElem?_take, if_neg (by omega), List.getElem?_eq_none (by omega)]

def marks (k : Int) (n : Nat) : List Int := (List.range n).map fun (i : Nat) => (k + i) % 256
theorem marks_length (k : Int) (n : Nat) : (marks k n).length = n := by simp [marks]
theorem marks_getD (k : Int) (n i : Nat) (h : i < n) : (marks k n).getD i 0 = (k + i) % 256 := by simp [marks, List.getD_eq_getElem?_getD, h]

theorem take_eq_step {xs ys : List Int} {k : Nat} (h1 : k < xs.length) (h2 : k < ys.length) (h : xs.take k = ys.take k) (e : xs.getD k 0 = ys.getD k 0) : xs.take (k + 1) = ys.take (k + 1) := by
  rw [List.take_succ_eq_append_getElem h1, List.take_succ_eq_append_getElem h2, h]
  simp [List.getD_eq_getElem?_getD, h1, h2] at e
  rw [e]
theorem ne_of_getD {xs ys : List Int} {k : Nat} (e : xs.getD k 0 ≠ ys.getD k 0) : (xs == ys) = false := by
  simp only [beq_eq_false_iff_ne]
  intro h
  exact e (by rw [h])
theorem eq_of_take {xs ys : List Int} {k : Nat} (hk : xs.length ≤ k) (hk2 : ys.length ≤ k) (h : xs.take k = ys.take k) : (xs == ys) = true := by
  rw [List.take_of_length_le hk, List.take_of_length_le hk2] at h
  simp [h]


theorem ownsRow_cap {w : World} {base : Nat} {e : TypeId} {size : Nat} {a : Option Addr} {n c : Nat} {xs : List Value} (h : w.ownsRow base e size (.slice a n c) n xs) : n ≤ c := by
  rcases h.2 with ⟨h', rfl⟩ | ⟨g, cap, cur, h', _, _, hc, _⟩
  · omega
  · simp only [Value.slice.injEq, true_and] at h'
    omega

def ahead (P : Nat → List Int) : Nat → Nat
  | 0 => 0
  | i + 1 => ahead P i + (P i).length

theorem ownsRow_own {w : World} {B : Nat} {e : TypeId} {k : IntKind} {a : Option Addr} {n c : Nat} {zs : List Int} (h : w.ownsRow B e 1 (.slice a n c) n (zs.map (Value.int k))) (hn : n = zs.length) : Own k w a zs := by
  intro hz
  have h0 : 0 < n := by rw [hn]; exact List.length_pos_iff.2 hz
  rcases h.2 with ⟨h', _⟩ | ⟨g, cap, cur, h', hb, hh, hnc, hcm, hcs, htake⟩
  · simp only [Value.slice.injEq] at h'
    omega
  · simp only [Value.slice.injEq, true_and] at h'
    obtain ⟨rfl, rfl⟩ := h'
    refine ⟨g, 0, rfl, (h.lt g rfl).2, fun i hi => ⟨?_, h.frozenAt _⟩⟩
    rw [Nat.zero_add, h.cellAt i (by omega)]
    simp [List.getD_eq_getElem?_getD, hi]

end Go.Proofs.Ytpikgmbjgfdcfab

namespace Go.Proofs.Ytpikgmbjgfdcfab
open Go.RowKit
set_option linter.unusedVariables false

def lineB (c : UInt8) : Bool := decide (32 ≤ (c.toNat : Int) ∧ (c.toNat : Int) ≤ 126)
def lineF (l : List UInt8) : Int := if 1 ≤ l.length ∧ l.length ≤ 60 then (if l.all lineB then 0 else 5) else 2
theorem line_snoc (s : ByteArray) (k : Nat) (h : k < s.size) : s.data.toList.take (k + 1) = s.data.toList.take k ++ [s[k]] := by
  rw [List.take_succ_eq_append_getElem (by simpa using h)]; rfl
theorem line_take {s : ByteArray} {k : Nat} (h : k < s.size) (ha : (s.data.toList.take k).all lineB = true) (hc : lineB s[k] = true) : (s.data.toList.take (k + 1)).all lineB = true := by
  rw [line_snoc s k h]; simp [ha, hc]
theorem line_len (s : ByteArray) : s.data.toList.length = s.size := by simp
theorem lineF_bad {s : ByteArray} (h : ¬ (1 ≤ s.size ∧ s.size ≤ 60)) : lineF s.data.toList = 2 := by
  unfold lineF; rw [line_len, if_neg h]
theorem lineF_stop {s : ByteArray} {k : Nat} (hl : 1 ≤ s.size ∧ s.size ≤ 60) (h : k < s.size) (hc : lineB s[k] = false) : lineF s.data.toList = 5 := by
  have : s[k] ∈ s.data.toList := Array.mem_toList_iff.2 (Array.getElem_mem (xs := s.data) (i := k) h)
  have h2 : s.data.toList.all lineB = false := by
    rw [List.all_eq_false]; exact ⟨_, this, by simp [hc]⟩
  unfold lineF; rw [line_len, if_pos hl, h2]; rfl
theorem lineB_yes {c : UInt8} (h1 : ¬ (c.toNat : Int) < 32) (h2 : ¬ 126 < (c.toNat : Int)) : lineB c = true := decide_eq_true ⟨by omega, by omega⟩
theorem lineB_no {c : UInt8} (h : (c.toNat : Int) < 32 ∨ 126 < (c.toNat : Int)) : lineB c = false := decide_eq_false (by omega)
theorem lineF_end {s : ByteArray} {k : Nat} (hl : 1 ≤ s.size ∧ s.size ≤ 60) (hk : s.size ≤ k) (ha : (s.data.toList.take k).all lineB = true) : lineF s.data.toList = 0 := by
  rw [List.take_of_length_le (by simpa using hk)] at ha
  unfold lineF; rw [line_len, if_pos hl, ha]; rfl

set_option maxHeartbeats 400000 in
theorem specLineFault_any (s : ByteArray) (w : World) (hs : s.size ≤ 9223372036854775807) :
    Calls Try.prog 34 #[.string s] w fun e w' => e = .returned (.int .i64 (lineF s.data.toList)) ∧ w' = w := by
  by_cases h1 : s.size < 1
  · have HN := hide (lineF_bad (s := s) (by omega))
    go_enter Try.func34, Try.ntmps34
    go_wp2
    go_ret
    exact ⟨ret_int HN.out.symm, rfl⟩
  by_cases h2 : 60 < s.size
  · have HN := hide (lineF_bad (s := s) (by omega))
    go_enter Try.func34, Try.ntmps34
    go_wp2
    go_ret
    exact ⟨ret_int HN.out.symm, rfl⟩
  have HL := hide (show 1 ≤ s.size ∧ s.size ≤ 60 by omega)
  go_enter Try.func34, Try.ntmps34
  go_wp2
  go_loop [3] (fun i => ∃ k : Nat, k ≤ s.size ∧ i = .int .i64 k ∧ (s.data.toList.take k).all lineB = true) (fun i => s.size - (intOf i).toNat)
  case atStart => exact ⟨0, Nat.zero_le _, rfl, rfl⟩
  case round =>
    obtain ⟨k, hk, rfl, ha⟩ := hrel
    have HA := hide ha
    clear ha
    by_cases hlt : k < s.size
    · by_cases c1 : (s[k].toNat : Int) < 32
      · have HN := hide (lineF_stop HL.out hlt (lineB_no (.inl c1)))
        go_wp2
        go_ret
        exact ⟨ret_int HN.out.symm, rfl⟩
      · by_cases c2 : 126 < (s[k].toNat : Int)
        · have HN := hide (lineF_stop HL.out hlt (lineB_no (.inr c2)))
          go_wp2
          go_ret
          exact ⟨ret_int HN.out.symm, rfl⟩
        · have HN := hide (line_take hlt HA.out (lineB_yes c1 c2))
          go_wp2
          go_round
          case rel => exact ⟨k + 1, by omega, by go_num, HN.out⟩
          case measure => simp [intOf]; omega
    · have HN := hide (lineF_end HL.out (by omega : s.size ≤ k) HA.out)
      go_wp2
      go_ret
      exact ⟨ret_int HN.out.symm, rfl⟩

set_option maxHeartbeats 400000 in
theorem implLineFault_any (s : ByteArray) (w : World) (hs : s.size ≤ 9223372036854775807) :
    Calls Try.prog 40 #[.string s] w fun e w' => e = .returned (.int .i64 (lineF s.data.toList)) ∧ w' = w := by
  by_cases h1 : s.size < 1
  · have HN := hide (lineF_bad (s := s) (by omega))
    go_enter Try.func40, Try.ntmps40
    go_wp2
    go_ret
    exact ⟨ret_int HN.out.symm, rfl⟩
  by_cases h2 : 60 < s.size
  · have HN := hide (lineF_bad (s := s) (by omega))
    go_enter Try.func40, Try.ntmps40
    go_wp2
    go_ret
    exact ⟨ret_int HN.out.symm, rfl⟩
  have HL := hide (show 1 ≤ s.size ∧ s.size ≤ 60 by omega)
  go_enter Try.func40, Try.ntmps40
  go_wp2
  go_loop [3, 14] (fun _ i => ∃ k : Nat, k ≤ s.size ∧ i = .int .i64 k ∧ (s.data.toList.take k).all lineB = true) (fun _ i => s.size - (intOf i).toNat)
  case atStart => exact ⟨0, Nat.zero_le _, rfl, rfl⟩
  case round =>
    obtain ⟨k, hk, rfl, ha⟩ := hrel
    have HA := hide ha
    clear ha
    by_cases hlt : k < s.size
    · by_cases c1 : (s[k].toNat : Int) < 32
      · have HN := hide (lineF_stop HL.out hlt (lineB_no (.inl c1)))
        go_wp2
        go_ret
        exact ⟨ret_int HN.out.symm, rfl⟩
      · by_cases c2 : 126 < (s[k].toNat : Int)
        · have HN := hide (lineF_stop HL.out hlt (lineB_no (.inr c2)))
          go_wp2
          go_ret
          exact ⟨ret_int HN.out.symm, rfl⟩
        · have HN := hide (line_take hlt HA.out (lineB_yes c1 c2))
          go_wp2
          go_round
          case rel => exact ⟨k + 1, by omega, by go_num, HN.out⟩
          case measure => simp [intOf]; omega
    · have HN := hide (lineF_end HL.out (by omega : s.size ≤ k) HA.out)
      go_wp2
      go_ret
      exact ⟨ret_int HN.out.symm, rfl⟩
end Go.Proofs.Ytpikgmbjgfdcfab

namespace Go.Proofs.Ytpikgmbjgfdcfab
open Go.RowKit
set_option linter.unusedVariables false

theorem Try.infoU8 : (Try.prog.info? 5).map (fun i => (i.zero, i.size, i.bytes)) = some (some (.int .u8 0), 1, 1) := by kernel_rfl

set_option maxHeartbeats 400000 in
theorem toByteS_any (a : Option Addr) (cap : Nat) (zs : List Int) (w : World) (h : Reads .u8 w a zs) (hl : zs.length ≤ 1048576) :
    Calls Try.prog 18 #[.slice a zs.length cap] w fun e w' => e = .returned (.slice (some ⟨w.heap.size, 0, none⟩) zs.length zs.length) ∧
      w'.rowIs w.heap.size 5 zs.length (fun i => .int .u8 (zs.getD i 0)) ∧ Below w.heap.size w w' := by
  have hmk := run_make_row' (P := Try.prog) 22 5 (.int .u8 0) 1 Try.underlying22 Try.infoU8 rfl .i64 .i64 zs.length (by omega) (by omega)
  go_enter Try.func18, Try.ntmps18
  go_wp2
  go_loopw [4] (fun i wr => ∃ k : Nat, k ≤ zs.length ∧ i = .int .i64 k ∧ wr.rowIs w.heap.size 5 zs.length (fun j => if j < k then .int .u8 (zs.getD j 0) else .int .u8 0) ∧ Below w.heap.size w wr) (fun i _ => zs.length - (intOf i).toNat)
  case atStart => exact ⟨0, Nat.zero_le _, rfl, (World.rowIs_made w _ _ _).congr (by simp), (Below.refl _ _).alloc (Nat.le_refl _) _⟩
  case round =>
    obtain ⟨k, hk, rfl, hrow, hbel⟩ := hrel
    by_cases hlt : k < zs.length
    · obtain ⟨b, off, rfl, hb, hc⟩ := h (by intro e; simp [e] at hlt)
      obtain ⟨z, hz⟩ : ∃ z, z = zs.getD k 0 := ⟨_, rfl⟩
      have hc1 : wr.cell? ⟨b, off + k, none⟩ = some (.int .u8 z) := (hbel.cell (p := ⟨b, off + k, none⟩) hb).trans (by rw [hz]; exact hc k hlt)
      have hf : wr.frozen? ⟨w.heap.size, k, none⟩ = false := hrow.frozen k
      have hc0 : wr.cell? ⟨w.heap.size, k, none⟩ = some (.int .u8 0) := by rw [hrow.cell hlt, if_neg (by omega)]
      have HZ := hide hz
      clear hz
      have HR := hide hrow
      have HB := hide hbel
      have HC := hide hc
      clear hrow hbel hc h
      go_wp2
      go_roundw
      case rel => exact ⟨k + 1, by omega, by go_num, by rw [HZ.out]; exact row_step (f := fun j => .int .u8 (zs.getD j 0)) (z := fun _ => .int .u8 0) HR.out, HB.out.setCell (Nat.le_refl _) _⟩
      case measure => simp [intOf]; omega
    · go_wp2
      go_ret
      exact ⟨rfl, hrow.congr (fun i hi => by rw [if_pos (by omega)]), hbel⟩


set_option maxHeartbeats 400000 in
theorem eqByteS_any (a b : Option Addr) (ca cb : Nat) (xs ys : List Int) (w : World) (ha : Reads .u8 w a xs) (hb : Reads .u8 w b ys) (hl : xs.length ≤ 1048576) (hl2 : ys.length ≤ 1048576) :
    Calls Try.prog 23 #[.slice a xs.length ca, .slice b ys.length cb] w fun e w' => e = .returned (.bool (xs == ys)) ∧ ∃ n, w' = w.drewN n := by
  by_cases hlen : xs.length = ys.length
  · have hne : ((xs.length : Int) != (ys.length : Int)) = false := by simp [hlen]
    go_enter Try.func23, Try.ntmps23
    go_wp2
    go_loopw [5] (fun i wr => ∃ k : Nat, k ≤ xs.length ∧ i = .int .i64 k ∧ xs.take k = ys.take k ∧ ∃ n, wr = w.drewN n) (fun i _ => xs.length - (intOf i).toNat)
    case atStart => exact ⟨0, Nat.zero_le _, rfl, rfl, 0, rfl⟩
    case round =>
      obtain ⟨k, hk, rfl, htk, n, rfl⟩ := hrel
      have HT := hide htk
      clear htk
      by_cases hlt : k < xs.length
      · obtain ⟨b1, o1, rfl, hb1, hc1⟩ := ha (by intro e; simp [e] at hlt)
        obtain ⟨b2, o2, rfl, hb2, hc2⟩ := hb (by intro e; rw [e] at hlen; simp at hlen; simp [hlen] at hlt)
        obtain ⟨x, hx⟩ : ∃ x, x = xs.getD k 0 := ⟨_, rfl⟩
        obtain ⟨y, hy⟩ : ∃ y, y = ys.getD k 0 := ⟨_, rfl⟩
        have c1 : w.cell? ⟨b1, o1 + k, none⟩ = some (.int .u8 x) := by rw [hx]; exact hc1 k hlt
        have c2 : w.cell? ⟨b2, o2 + k, none⟩ = some (.int .u8 y) := by rw [hy]; exact hc2 k (by omega)
        have HX := hide hx
        have HY := hide hy
        clear hc1 hc2 ha hb hx hy
        have hk2 : k < ys.length := by omega
        by_cases heq : x = y
        · have hb : (x != y) = false := by simp [heq]
          have HE := hide heq
          clear heq
          go_wp2
          go_quiet (fail)
          go_wp2
          go_roundw
          case rel => exact ⟨k + 1, by omega, by go_num, take_eq_step hlt hk2 HT.out (by rw [← HX.out, ← HY.out]; exact HE.out), _, rfl⟩
          case measure => simp [intOf]; omega
        · have hb : (x != y) = true := by simp [heq]
          go_wp2
          go_quiet (fail)
          go_wp2
          go_ret
          exact ⟨ret_bool (ne_of_getD (k := k) (by rw [← HX.out, ← HY.out]; exact heq)).symm, _, World.drewN_drewN _ _ _⟩
      · go_wp2
        go_ret
        exact ⟨ret_bool (eq_of_take (k := k) (by omega) (by omega) HT.out).symm, _, rfl⟩
  · have hne : ((xs.length : Int) != (ys.length : Int)) = true := by simp; omega
    go_enter Try.func23, Try.ntmps23
    go_wp2
    go_ret
    have e : (xs == ys) = false := by simp; intro e; exact hlen (by rw [e])
    exact ⟨ret_bool e.symm, 0, rfl⟩


theorem toByteS_at (a : Option Addr) (cap : Nat) (zs : List Int) (w : World) (h : Reads .u8 w a zs) (hl : zs.length ≤ 1048576) :
    Calls Try.prog 18 #[.slice a zs.length cap] w fun e w' => ∃ g, e = .returned (.slice (some ⟨g, 0, none⟩) zs.length zs.length) ∧ w.heap.size ≤ g ∧ g < w'.heap.size ∧ Own .u8 w' (some ⟨g, 0, none⟩) zs ∧ Below w.heap.size w w' := by
  refine (toByteS_any a cap zs w h hl).mono ?_
  rintro e w' ⟨rfl, hr, hb⟩
  exact ⟨_, rfl, Nat.le_refl _, hr.lt, Own.row hr (Nat.le_refl _) (fun _ _ => rfl), hb⟩

theorem eqByteS_b (a b : Option Addr) (ca cb : Nat) (xs : List Int) (w : World) (ha : Reads .u8 w a xs) (hb : Reads .u8 w b xs) (hl : xs.length ≤ 1048576) :
    Calls Try.prog 23 #[.slice a xs.length ca, .slice b xs.length cb] w fun e w' => e = .returned (.bool true) ∧ Below w.heap.size w w' := by
  refine (eqByteS_any a b ca cb xs xs w ha hb hl hl).mono ?_
  rintro e w' ⟨rfl, m, rfl⟩
  exact ⟨ret_bool (by simp), below_drewN (Below.refl _ _) m⟩

theorem own_step {w : World} {b off j n : Nat} {k : IntKind} {f g : Nat → Int} {v : Int} (h : ∀ t, t < n → w.cell? ⟨b, off + t, none⟩ = some (.int k (if t < j then f t else g t)) ∧ w.frozen? ⟨b, off + t, none⟩ = false) (hj : j < n) (hv : v = f j) :
    ∀ t, t < n → (w.setCell ⟨b, off + j, none⟩ (.int k v)).cell? ⟨b, off + t, none⟩ = some (.int k (if t < j + 1 then f t else g t)) ∧ (w.setCell ⟨b, off + j, none⟩ (.int k v)).frozen? ⟨b, off + t, none⟩ = false := by
  intro t ht
  obtain ⟨h1, h2⟩ := h t ht
  refine ⟨?_, by rw [World.frozen?_setCell]; exact h2⟩
  by_cases e : t = j
  · subst e
    rw [cell_set_same (h t hj).1, if_pos (by omega), hv]
  · rw [cell_set_other (fun c => e (Nat.add_left_cancel (show off + j = off + t from congrArg Addr.off c)).symm), h1]
    by_cases e2 : t < j
    · rw [if_pos e2, if_pos (by omega)]
    · rw [if_neg e2, if_neg (by omega)]

set_option maxHeartbeats 400000 in
theorem markByteS_any (a : Option Addr) (cap : Nat) (zs : List Int) (k : Int) (w : World) (h : Own .u8 w a zs) (hk0 : 0 ≤ k) (hk1 : k ≤ 1099511627776) (hl : zs.length ≤ 1099511627776) :
    Calls Try.prog 24 #[.slice a zs.length cap, .int .i64 k] w fun e w' => e = .returned (.int .i64 (k + zs.length)) ∧ Own .u8 w' a (marks k zs.length) ∧ Kept (blkOf a) w w' ∧ SameShape w w' := by
  go_enter Try.func24, Try.ntmps24
  go_wp2
  go_loopw [1, 5] (fun q i wr => ∃ j : Nat, j ≤ zs.length ∧ i = .int .i64 j ∧ q = .int .i64 (k + j) ∧ (zs ≠ [] → ∃ b off, a = some ⟨b, off, none⟩ ∧ b < wr.heap.size ∧ ∀ t, t < zs.length → wr.cell? ⟨b, off + t, none⟩ = some (.int .u8 (if t < j then (k + t) % 256 else zs.getD t 0)) ∧ wr.frozen? ⟨b, off + t, none⟩ = false) ∧ Kept (blkOf a) w wr ∧ SameShape w wr) (fun _ i _ => zs.length - (intOf i).toNat)
  case atStart => exact ⟨0, Nat.zero_le _, rfl, by simp, fun hz => by simpa using h hz, Kept.refl _ _, SameShape.refl _⟩
  case round =>
    obtain ⟨j, hj, rfl, rfl, hown, hkept, hss⟩ := hrel
    have HSS := hide hss
    clear hss
    by_cases hlt : j < zs.length
    · obtain ⟨b, off, rfl, hb, hc⟩ := hown (by intro e; simp [e] at hlt)
      have hc0 := (hc j hlt).1
      rw [if_neg (by omega)] at hc0
      generalize zs.getD j 0 = z at hc0
      have hf := (hc j hlt).2
      have HC := hide hc
      have HK := hide hkept
      have HH := hide h
      clear hc hkept hown h
      go_wp2
      go_roundw
      case rel => exact ⟨j + 1, by omega, by go_num, by go_num, fun _ => ⟨b, off, rfl, by simpa [World.setCell] using hb, own_step HC.out hlt (by go_num)⟩, HK.out.setCell (p := ⟨b, off + j, none⟩) (fun _ => rfl) _, HSS.out.setCell _ _ _⟩
      case measure => simp [intOf]; omega
    · have hje : j = zs.length := by omega
      go_wp2
      go_ret
      refine ⟨ret_int (by rw [hje]), fun hz => ?_, hkept, HSS.out⟩
      obtain ⟨b, off, e, hb, hc⟩ := hown (by intro e; simp [e, marks] at hz)
      exact ⟨b, off, e, hb, fun t ht => by rw [marks_length] at ht; rw [marks_getD _ _ _ ht]; have := hc t ht; rwa [if_pos (by omega)] at this⟩

set_option maxHeartbeats 400000 in
theorem heldByteS_any (a : Option Addr) (cap n : Nat) (k : Int) (w : World) (h : Reads .u8 w a (marks k n)) (hk0 : 0 ≤ k) (hk1 : k ≤ 1099511627776) (hl : n ≤ 1099511627776) :
    Calls Try.prog 33 #[.slice a n cap, .int .i64 k] w fun e w' => e = .returned (.int .i64 (k + n)) ∧ w' = w := by
  go_enter Try.func33, Try.ntmps33
  go_wp2
  go_loop [1, 5] (fun q i => ∃ j : Nat, j ≤ n ∧ i = .int .i64 j ∧ q = .int .i64 (k + j)) (fun _ i => n - (intOf i).toNat)
  case atStart => exact ⟨0, Nat.zero_le _, rfl, by simp⟩
  case round =>
    obtain ⟨j, hj, rfl, rfl⟩ := hrel
    by_cases hlt : j < n
    · obtain ⟨b, off, rfl, hb, hc⟩ := h (by intro e; have := marks_length k n; rw [e] at this; simp at this; omega)
      have hc0 := hc j (by rw [marks_length]; exact hlt)
      rw [marks_getD _ _ _ hlt] at hc0
      have HC := hide hc
      clear hc h
      go_wp2
      go_round
      case rel => exact ⟨j + 1, by omega, by go_num, by go_num⟩
      case measure => simp [intOf]; omega
    · have hje : j = n := by omega
      subst hje
      go_wp2
      go_ret
      exact ⟨rfl, rfl⟩

end Go.Proofs.Ytpikgmbjgfdcfab

namespace Go.Proofs.Ytpikgmbjgfdcfab
open Go.RowKit
set_option linter.unusedVariables false

def fnvStep (h z : Int) : Int := bits BinOp.xor IntKind.u32 h z * 16777619 % 4294967296
def fnv (zs : List Int) : Int := zs.foldl fnvStep 2166136261
def digest (zs : List Int) : Int := wrap64 (bits BinOp.xor IntKind.u32 (fnv zs) ((zs.length : Int) * 65536 % 4294967296))
theorem fnv_step {zs : List Int} {k : Nat} {z : Int} (hk : k < zs.length) (hz : zs.getD k 0 = z) : fnv (zs.take (k + 1)) = fnvStep (fnv (zs.take k)) z := by
  unfold fnv
  rw [List.take_succ_eq_append_getElem hk, List.foldl_append]
  simp [List.getD_eq_getElem?_getD, hk] at hz
  simp [hz]

set_option maxHeartbeats 400000 in
theorem specDigestOf_any (a : Option Addr) (cap : Nat) (zs : List Int) (w : World) (h : Reads .u8 w a zs) (hu : U8 zs) (hl : zs.length ≤ 1048576) :
    Calls Try.prog 37 #[.slice a zs.length cap] w fun e w' => e = .returned (.int .i64 (digest zs)) ∧ w' = w := by
  go_enter Try.func37, Try.ntmps37
  go_wp2
  go_loop [3, 4] (fun h i => ∃ k : Nat, k ≤ zs.length ∧ i = .int .i64 k ∧ h = .int .u32 (fnv (zs.take k))) (fun _ i => zs.length - (intOf i).toNat)
  case atStart => exact ⟨0, Nat.zero_le _, rfl, rfl⟩
  case round =>
    obtain ⟨k, hk, rfl, rfl⟩ := hrel
    generalize hx : fnv (zs.take k) = x
    have HX := hide hx
    clear hx
    by_cases hlt : k < zs.length
    · obtain ⟨b, off, rfl, hb, hc⟩ := h (by intro e; simp [e] at hlt)
      have hz01 := hu.get k
      have hc1 := hc k hlt
      generalize hz : zs.getD k 0 = z at hz01 hc1
      have HZ := hide hz
      have HC := hide hc
      clear hc h hz
      go_wp2
      go_round
      case rel => exact ⟨k + 1, by omega, by go_num, by rw [fnv_step hlt HZ.out, HX.out]; rfl⟩
      case measure => simp [intOf]; omega
    · go_wp2
      go_ret
      exact ⟨ret_int (by unfold digest; rw [← HX.out, List.take_of_length_le (by omega)]), rfl⟩

set_option maxHeartbeats 400000 in
theorem implDigestOf_any (a : Option Addr) (cap : Nat) (zs : List Int) (w : World) (h : Reads .u8 w a zs) (hu : U8 zs) (hl : zs.length ≤ 1048576) :
    Calls Try.prog 41 #[.slice a zs.length cap] w fun e w' => e = .returned (.int .i64 (digest zs)) ∧ w' = w := by
  go_enter Try.func41, Try.ntmps41
  go_wp2
  go_loop [3, 5, 8] (fun h _ i => ∃ k : Nat, k ≤ zs.length ∧ i = .int .i64 k ∧ h = .int .u32 (fnv (zs.take k))) (fun _ _ i => zs.length - (intOf i).toNat)
  case atStart => exact ⟨0, Nat.zero_le _, rfl, rfl⟩
  case round =>
    obtain ⟨k, hk, rfl, rfl⟩ := hrel
    generalize hx : fnv (zs.take k) = x
    have HX := hide hx
    clear hx
    by_cases hlt : k < zs.length
    · obtain ⟨b, off, rfl, hb, hc⟩ := h (by intro e; simp [e] at hlt)
      have hz01 := hu.get k
      have hc1 := hc k hlt
      generalize hz : zs.getD k 0 = z at hz01 hc1
      have HZ := hide hz
      have HC := hide hc
      clear hc h hz
      go_wp2
      go_round
      case rel => exact ⟨k + 1, by omega, by go_num, by rw [fnv_step hlt HZ.out, HX.out]; rfl⟩
      case measure => simp [intOf]; omega
    · go_wp2
      go_ret
      exact ⟨ret_int (by unfold digest; rw [← HX.out, List.take_of_length_le (by omega)]), rfl⟩

theorem bits_u32 (op : BinOp) (x y : Int) : 0 ≤ bits op .u32 x y ∧ bits op .u32 x y < 4294967296 := by
  unfold bits
  simp only [IntKind.wrap_u32]
  omega
theorem digest_range (zs : List Int) : 0 ≤ digest zs ∧ digest zs ≤ 4294967295 := by
  have h := bits_u32 .xor (fnv zs) ((zs.length : Int) * 65536 % 4294967296)
  unfold digest wrap64
  omega

end Go.Proofs.Ytpikgmbjgfdcfab

namespace Go.Proofs.Ytpikgmbjgfdcfab
open Go.RowKit
set_option linter.unusedVariables false

def GB (B T : Nat) (w : World) (v : Value) (ds : List Int) : Prop :=
  w.ownsRow B 5 1 v ds.length (ds.map (Value.int .u8)) ∧ ∀ b, v.ownBlock = some b → b < T
theorem GB.kept {S : Nat → Prop} {B T : Nat} {w w' : World} {v : Value} {ds : List Int} (h : GB B T w v ds) (hk : Kept S w w') (hS : ∀ b, B ≤ b → b < T → ¬ S b) : GB B T w' v ds :=
  ⟨ownsRow_kept h.1 hk (fun b hb => hS b (h.1.lt b hb).1 (h.2 b hb)), h.2⟩
theorem GB.below {B T : Nat} {w w' : World} {v : Value} {ds : List Int} (h : GB B T w v ds) (hk : Below w.heap.size w w') : GB B T w' v ds :=
  h.kept (S := fun _ => False) (Kept.of_below hk) (fun _ _ _ => id)
theorem GB.mk {B : Nat} {w : World} {v : Value} {ds : List Int} {n : Nat} (h : w.ownsRow B 5 1 v n (ds.map (Value.int .u8))) (hn : n = ds.length) : GB B w.heap.size w v ds := by
  subst hn
  exact ⟨h, fun b hb => (h.lt b hb).2⟩
theorem GB.own {B T : Nat} {w : World} {a : Option Addr} {c : Nat} {ds : List Int} (h : GB B T w (.slice a ds.length c) ds) : Own .u8 w a ds := ownsRow_own h.1 rfl
theorem GB.mark {B T : Nat} {w w' : World} {a : Option Addr} {c : Nat} {ds ys : List Int} (h : GB B T w (.slice a ds.length c) ds) (hl : ys.length = ds.length) (ho : Own .u8 w' a ys) (hs : SameShape w w') : GB B T w' (.slice a ds.length c) ys := by
  obtain ⟨h1, h2⟩ := h
  refine ⟨?_, h2⟩
  rw [hl]
  rcases h1.2 with ⟨h', h0⟩ | ⟨g, cap, cur, h', hb, hh, hnc, hcm, hcs, htake⟩
  · have e : ys = [] := List.eq_nil_of_length_eq_zero (by omega)
    have e2 : ds = [] := List.eq_nil_of_length_eq_zero h0
    subst e e2
    rw [h']
    exact World.ownsRow_nil _ _ _ _
  · simp only [Value.slice.injEq, true_and] at h'
    obtain ⟨rfl, rfl⟩ := h'
    refine own_back h1 hs (by simp [hl]) (fun t ht => ?_)
    obtain ⟨b, off, e1, hb, hc⟩ := ho (by intro e; rw [e] at hl; simp at hl; omega)
    simp only [Option.some.injEq, Addr.mk.injEq, and_true] at e1
    obtain ⟨rfl, rfl⟩ := e1
    have := (hc t (by omega)).1
    rw [Nat.zero_add] at this
    rw [this]
    have ht2 : t < ys.length := by omega
    simp [List.getD_eq_getElem?_getD, ht2]




end Go.Proofs.Ytpikgmbjgfdcfab

namespace Go.Proofs.Ytpikgmbjgfdcfab
open Go.RowKit
set_option linter.unusedVariables false

theorem wpList_app {P : Program} {w : World} {ops : Array Oper} {rest : List Oper} {o : Oper} {a : Act} {Q : Exit → Act → World → Prop} (hgd : o.guard = none) (s x : Operand) (t : TypeId)
    (ho : o.op = .call { callee := .builtin .append, args := #[s, x], argTypes := #[t, t] })
    (base : Nat) (e : TypeId) (i : TypeInfo) (z : Value) (size bytes : Nat) (ht : P.underlying t = some (.slice e)) (hi : P.info? e = some i) (hz : i.zero = some z)
    (hsize : i.size = size) (hby : i.bytes = bytes) (hzs : z.cells.size = size) (hsz : 0 < size)
    (v : Value) (n : Nat) (xs : List Value) (hs : a.eval s = v) (hown : w.ownsRow base e size v n xs)
    (ad : Addr) (m c : Nat) (news : List Value) (hx : a.eval x = .slice (some ad) m c) (hl : news.length = m * size) (hnews : ∀ j u, news[j]? = some u → w.cell? (ad.add j) = some u) (h1 : ∀ u ∈ news, u.oneCell' = true)
    (N : Nat) (hN : n + m = N) (h63 : n + m ≤ maxLen) (hbytes : (n + m) * bytes ≤ 140737488355328) (hbase : base ≤ w.heap.size)
    (h : ∀ av cv w', w'.ownsRow base e size (.slice av N cv) N (xs ++ news) → Kept (fun b => v.ownBlock = some b) w w' → wpList P ops Q rest (a.put o.dst (.slice av N cv)) w') :
    wpList P ops Q (o :: rest) a w := by
  refine wpList_append_own w hgd s x t ho base e i z size bytes ht hi hz hsize hby hzs hsz v n xs hs hown ad m c news hx hl hnews h1 h63 hbytes hbase fun v' w' h2 h3 _ => ?_
  rw [hN] at h2
  obtain ⟨av, cv, rfl⟩ := ownsRow_shape h2
  exact h av cv w' h2 ⟨h3.os, h3.tape, h3.output, h3.size, fun q hq hn => h3.block q hq (fun e => hn e.symm)⟩
theorem addr_add (b o j : Nat) : (⟨b, o, none⟩ : Addr).add j = ⟨b, o + j, none⟩ := by unfold Addr.add; split <;> simp_all
end Go.Proofs.Ytpikgmbjgfdcfab

namespace Go.Proofs.Ytpikgmbjgfdcfab
open Go.RowKit
set_option linter.unusedVariables false

def headZ (l : List UInt8) : List Int := (l.length : Int) :: l.map fun b => (b.toNat : Int)
def tailZ (d : Int) : List Int := [d / 16777216 % 256, d / 65536 % 256, d / 256 % 256, d % 256]
def packZ (l : List UInt8) : List Int := headZ l ++ tailZ (digest (headZ l))
theorem headZ_len (l : List UInt8) : (headZ l).length = l.length + 1 := by simp [headZ]
theorem packZ_len (l : List UInt8) : (packZ l).length = l.length + 5 := by simp [packZ, headZ, tailZ]
theorem headZ_u8 {l : List UInt8} (h : l.length ≤ 255) : U8 (headZ l) := by
  intro z hz
  simp only [headZ, List.mem_cons, List.mem_map] at hz
  rcases hz with rfl | ⟨b, -, rfl⟩
  · omega
  · have := b.toNat_lt; omega
theorem packZ_u8 {l : List UInt8} (h : l.length ≤ 255) : U8 (packZ l) := by
  intro z hz
  rcases List.mem_append.1 hz with hz | hz
  · exact headZ_u8 h z hz
  · simp only [tailZ, List.mem_cons, List.not_mem_nil, or_false] at hz
    rcases hz with rfl | rfl | rfl | rfl <;> omega
theorem lineF_size {s : ByteArray} (h : lineF s.data.toList = 0) : 1 ≤ s.size ∧ s.size ≤ 60 := by
  by_cases e : 1 ≤ s.size ∧ s.size ≤ 60
  · exact e
  · rw [lineF_bad e] at h; exact absurd h (by decide)
theorem head_cells (s : ByteArray) : [Value.int .u8 (s.size : Int)] ++ Lib.strCells s = (headZ s.data.toList).map (Value.int .u8) := by
  simp [headZ, Lib.strCells]

theorem made_one (w : World) (x : Value) (e : TypeId) (base g : Nat) (hb : base ≤ w.heap.size) (hg : g = w.heap.size) : (w.alloc (.cells #[x] e)).ownsRow base e 1 (.slice (some ⟨g, 0, none⟩) 1 1) 1 [x] := by
  subst hg
  exact ⟨by simp, .inr ⟨w.heap.size, 1, #[x], rfl, hb, heap_alloc_new w _, Nat.le_refl _, by unfold maxLen; omega, by simp, by simp⟩⟩
theorem wpList_app_str {P : Program} {w : World} {ops : Array Oper} {rest : List Oper} {o : Oper} {a : Act} {Q : Exit → Act → World → Prop} (hgd : o.guard = none) (sl x : Operand) (t u : TypeId)
    (ho : o.op = .call { callee := .builtin .append, args := #[sl, x], argTypes := #[t, u] })
    (base : Nat) (e : TypeId) (i : TypeInfo) (ht : P.underlying t = some (.slice e)) (hu : P.underlying u = some .string) (hi : P.info? e = some i) (hz : i.zero = some (.int .u8 0))
    (hsize : i.size = 1) (hby : i.bytes = 1)
    (v : Value) (n : Nat) (xs : List Value) (hs : a.eval sl = v) (hown : w.ownsRow base e 1 v n xs) (s : ByteArray) (hx : a.eval x = .string s)
    (N : Nat) (hN : n + s.size = N) (ys : List Value) (hys : xs ++ Lib.strCells s = ys) (h63 : n + s.size ≤ maxLen) (hbytes : n + s.size ≤ 140737488355328) (hbase : base ≤ w.heap.size)
    (h : ∀ av cv w', w'.ownsRow base e 1 (.slice av N cv) N ys → Kept (fun b => v.ownBlock = some b) w w' → wpList P ops Q rest (a.put o.dst (.slice av N cv)) w') :
    wpList P ops Q (o :: rest) a w := by
  refine Lib.wpList_append_own_string w hgd sl x t u ho base e i ht hu hi hz hsize hby v n xs hs hown s hx h63 hbytes hbase fun v' w' h2 h3 _ => ?_
  rw [hN, hys] at h2
  obtain ⟨av, cv, rfl⟩ := ownsRow_shape h2
  exact h av cv w' h2 ⟨h3.os, h3.tape, h3.output, h3.size, fun q hq hn => h3.block q hq (fun e => hn e.symm)⟩
theorem tail_at {D : Int} (h0 : 0 ≤ D) (h1 : D ≤ 4294967295) {j : Nat} (hj : j < 4) : (tailZ D).take (j + 1) = (tailZ D).take j ++ [D * 256 ^ j % 4294967296 / 16777216] := by
  obtain rfl | rfl | rfl | rfl : j = 0 ∨ j = 1 ∨ j = 2 ∨ j = 3 := by omega
  all_goals simp [tailZ]
  all_goals omega
set_option maxHeartbeats 1600000 in
theorem implPackLine_ok (s : ByteArray) (w : World) (h0 : lineF s.data.toList = 0) :
    Calls Try.prog 38 #[.string s] w fun e w' => ∃ a c, e = .returned (.agg #[.int .i64 0, .slice a (packZ s.data.toList).length c]) ∧ GB w.heap.size w'.heap.size w' (.slice a (packZ s.data.toList).length c) (packZ s.data.toList) ∧ Below w.heap.size w w' := by
  obtain ⟨h1, h2⟩ := lineF_size h0
  obtain ⟨i0, hi0, hz0, hz1, hz2⟩ := info_parts Try.infoU8
  have HLF : Hid (∀ w : World, Calls Try.prog 40 #[.string s] w fun e w' => e = .returned (.int .i64 0) ∧ w' = w) := hide fun w => by have := implLineFault_any s w (by omega); rw [h0] at this; exact this
  have HHL := hide (headZ_len s.data.toList)
  have HHU := hide (headZ_u8 (l := s.data.toList) (by rw [line_len]; omega))
  have HPZ := hide (show packZ s.data.toList = headZ s.data.toList ++ tailZ (digest (headZ s.data.toList)) from rfl)
  have HHC := hide (head_cells s)
  have hll := line_len s
  clear h0
  generalize hP : packZ s.data.toList = PZ at *
  generalize hH : headZ s.data.toList = HZ at *
  have HH1 : Hid (HZ.length = s.size + 1) := hide (by rw [HHL.out, hll])
  have hle : HZ.length ≤ 61 := by rw [HH1.out]; omega
  clear hP hH hll HHL
  go_enter Try.func38, Try.ntmps38
  go_wp2_with fail
  refine (HLF.out _).mono ?_
  rintro e w1 ⟨rfl, rfl⟩
  go_wp2_with (first | (at_builtin; refine wpList_app_str rfl (.tmp 15) (.tmp 16) 22 9 rfl (w.heap.size + 1) 5 i0 Try.underlying22 Try.underlying9 hi0 hz0 hz1 hz2 _ 1 _ rfl (made_one _ _ _ _ _ (by simp) (by simp)) s rfl HZ.length (by rw [HH1.out]; omega) (HZ.map (Value.int .u8)) HHC.out (by unfold maxLen; omega) (by omega) (by simp) ?_; intro av cv w2 ho2 hk2; have O2 := hide ho2; have K2 : Hid (Kept (fun b => some (w.heap.size + 1) = some b) ((w.alloc (.cells #[.int .i64 0, .slice none 0 0] 65)).alloc (.cells #[.int .u8 s.size] 5)) w2) := hide hk2; clear ho2 hk2) | fail)
  have X2 := hide (((Box.new w (.int .i64 0) (.slice none 0 0) 65).below (below_alloc _ (.cells #[.int .u8 s.size] 5))).kept K2.out (by simp))
  have B2 := hide ((below_next (below_alloc w (.cells #[.int .i64 0, .slice none 0 0] 65)) (below_alloc _ (.cells #[.int .u8 s.size] 5))).trans (K2.out.below (by simp; omega) (fun k hk e => by simp at e; omega)))
  have n2 : w.heap.size + 1 ≤ w2.heap.size := by have := K2.out.size; simp at this; omega
  clear K2
  refine (implDigestOf_any av cv HZ w2 (ownsRow_own O2.out rfl).reads HHU.out (by omega)).mono ?_
  rintro e w3 ⟨rfl, rfl⟩
  obtain ⟨d0, d1⟩ := digest_range HZ
  generalize hD : digest HZ = D at *
  clear hD
  go_wp2_with fail
  go_loopw [4, 5, 21] (fun v d i wr => ∃ j : Nat, j ≤ 4 ∧ i = .int .i64 j ∧ d = .int .u32 (D * 256 ^ j % 4294967296) ∧ wr.ownsRow (w.heap.size + 1) 5 1 v (HZ.length + j) ((HZ ++ (tailZ D).take j).map (Value.int .u8)) ∧ Box wr w.heap.size (.int .i64 0) (.slice none 0 0) ∧ w.heap.size + 1 ≤ wr.heap.size ∧ Below w.heap.size w wr) (fun _ _ i _ => 4 - (intOf i).toNat)
  case atStart => exact ⟨0, by omega, rfl, by congr 1; simp; try omega, by simpa using O2.out, X2.out, n2, B2.out⟩
  case round =>
    obtain ⟨j, hj, rfl, rfl, hown, hbox, hsz, hbel⟩ := hrel
    by_cases hlt : j < 4
    · have hm1 : HZ.length + j + 1 ≤ maxLen := by unfold maxLen; omega
      have hm2 : (HZ.length + j + 1) * 1 ≤ 140737488355328 := by omega
      have HT := hide (tail_at d0 d1 hlt)
      have HS : Hid (∃ x', D * 256 ^ j % 4294967296 = x' ∧ 0 ≤ x' ∧ x' < 4294967296) := hide ⟨_, rfl, by omega, by omega⟩
      have HO := hide hown
      have HBj := hide hbel
      have HX := hide hbox
      have HN : Hid (D * 256 ^ (j + 1) % 4294967296 = D * 256 ^ j % 4294967296 * 256 % 4294967296) := hide (by rw [Int.pow_succ, ← Int.mul_assoc]; generalize D * 256 ^ j = y; omega)
      clear hown hbel hbox
      obtain ⟨x, hx, x0, x1⟩ := HS.out
      rw [hx] at HT HN
      rw [hx]
      clear hx HS
      have hq : 0 ≤ x / 16777216 ∧ x / 16777216 ≤ 255 := by omega
      go_wp2_with (first | (at_builtin; refine wpList_append_one rfl (.tmp 23) (.tmp 27) 22 rfl (w.heap.size + 1) 5 i0 (.int .u8 0) 1 1 Try.underlying22 hi0 hz0 hz1 hz2 rfl (by decide) _ _ _ rfl HO.out rfl rfl (by intro u hu; simp at hu; subst hu; rfl) hm1 hm2 hsz ?_; intro v' w' ho' hk'; have O3 := hide ho'; have K3 := hide hk'; clear ho' hk') | fail)
      go_roundw
      case rel => exact ⟨j + 1, by omega, by go_num, by rw [HN.out], by rw [HT.out, ← List.append_assoc, List.map_append]; exact O3.out, HX.out.kept K3.out (fun hS => by have := (HO.out.lt _ hS).1; omega), Nat.le_trans hsz K3.out.size, HBj.out.trans (K3.out.below HBj.out.size (fun k hk hS => by have := (HO.out.lt _ hS).1; omega))⟩
      case measure => simp [intOf]; omega
    · have hje : j = 4 := by omega
      subst hje
      obtain ⟨av, cv, rfl⟩ := ownsRow_shape hown
      obtain ⟨⟨q0, q1⟩, q2, q3⟩ := hbox
      have HO := hide hown
      have HBj := hide hbel
      clear hown hbel
      go_wp2
      have hPZ : PZ = HZ ++ tailZ D := HPZ.out
      have hpl : PZ.length = HZ.length + 4 := by rw [hPZ]; simp [tailZ]
      have O4 : wr.ownsRow (w.heap.size + 1) 5 1 (.slice av (HZ.length + 4) cv) (HZ.length + 4) (PZ.map (Value.int .u8)) := by rw [hPZ]; exact HO.out
      refine bodyPost_ret (v := .agg #[.int .i64 0, .slice av (HZ.length + 4) cv]) (by simp [results, Try.results38, go_sem, q0, q1]) rfl ⟨av, cv, by rw [hpl], ?_, (HBj.out.setCell (Nat.le_refl _) _).setCell (Nat.le_refl _) _⟩
      have O5 := ownsRow_mono (base' := w.heap.size) (ownsRow_kept (S := fun b => b = w.heap.size) O4 (Kept.two wr w.heap.size 0 1 (.int .i64 0) (.slice av (HZ.length + 4) cv)) (fun b hb e => by have := (O4.lt b hb).1; omega)) (by omega)
      rw [← hpl] at O5 ⊢
      exact GB.mk O5 rfl

set_option maxHeartbeats 400000 in
theorem implPackLine_bad (s : ByteArray) (w : World) (hs : s.size ≤ 1048576) (h0 : lineF s.data.toList ≠ 0) :
    Calls Try.prog 38 #[.string s] w fun e w' => ∃ a c, e = .returned (.agg #[.int .i64 (lineF s.data.toList), .slice a ([] : List Int).length c]) ∧ GB w.heap.size w'.heap.size w' (.slice a ([] : List Int).length c) [] ∧ Below w.heap.size w w' := by
  have HLF := hide fun w : World => implLineFault_any s w (by omega)
  generalize lineF s.data.toList = F at *
  have hb : (F == 0) = false := beq_eq_false_iff_ne.2 h0
  go_enter Try.func38, Try.ntmps38
  go_wp2_with fail
  refine (HLF.out _).mono ?_
  rintro e w1 ⟨rfl, rfl⟩
  go_wp2_with fail
  exact bodyPost_ret (v := .agg #[.int .i64 F, .slice none 0 0]) (by simp [results, Try.results38, go_sem]) rfl ⟨none, 0, rfl, GB.mk (n := 0) (World.ownsRow_nil _ _ _ _) rfl, by first | exact below_alloc _ _ | exact (Below.refl _ _).alloc (Nat.le_refl _) _ | exact ((below_alloc _ _).setCell (Nat.le_refl _) _).setCell (Nat.le_refl _) _⟩

theorem conv_cells (w : World) (s : ByteArray) (C : Nat) (e : TypeId) (fz : Nat × Nat) (g : Nat) (hg : g = w.heap.size) : ∀ j u, (Lib.strCells s)[j]? = some u → (w.drew.alloc (.cells (bytesRow s C) e fz)).cell? ((⟨g, 0, none⟩ : Addr).add j) = some u := by
  intro j u hu
  subst hg
  have e1 : (bytesRow s C).toList = Lib.strCells s ++ List.replicate (C - s.size) (.int .u8 0) := by simp [bytesRow, Lib.strCells]
  rw [addr_add, Nat.zero_add, cell_of_row _ w.heap.size j _ e fz (heap_alloc_new w.drew _), ← Array.getElem?_toList, e1, List.getElem?_append_left (List.getElem?_eq_some_iff.1 hu).1]
  exact hu

set_option maxHeartbeats 1600000 in
theorem l14Pack_any (s : ByteArray) (w : World) (h1 : 1 ≤ s.size) (h2 : s.size ≤ 60) :
    Calls Try.prog 35 #[.string s] w fun e w' => ∃ a c, e = .returned (.slice a (packZ s.data.toList).length c) ∧ GB w.heap.size w'.heap.size w' (.slice a (packZ s.data.toList).length c) (packZ s.data.toList) ∧ Below w.heap.size w w' := by
  obtain ⟨i0, hi0, hz0, hz1, hz2⟩ := info_parts Try.infoU8
  have HHL := hide (headZ_len s.data.toList)
  have HHU := hide (headZ_u8 (l := s.data.toList) (by rw [line_len]; omega))
  have HPZ := hide (show packZ s.data.toList = headZ s.data.toList ++ tailZ (digest (headZ s.data.toList)) from rfl)
  have HHC := hide (head_cells s)
  have hll := line_len s
  generalize hP : packZ s.data.toList = PZ at *
  generalize hH : headZ s.data.toList = HZ at *
  have HH1 : Hid (HZ.length = s.size + 1) := hide (by rw [HHL.out, hll])
  have hle : HZ.length ≤ 61 := by rw [HH1.out]; omega
  clear hP hH hll HHL
  have hcv := run_bytes_of_string (P := Try.prog) (w.alloc (.cells #[.int .u8 s.size] 5)) 9 22 5 s Try.underlying9 Try.underlying22 Try.underlying5
  generalize grownCap (w.alloc (.cells #[.int .u8 s.size] 5)) s.size 0 5 = C at *
  have OO : (w.alloc (.cells #[.int .u8 s.size] 5)).drew.alloc (.cells (bytesRow s C) 5 ((bytesRow s C).size, (bytesRow s C).size + 1)) = ((w.alloc (.cells #[.int .u8 s.size] 5)).alloc (.cells (bytesRow s C) 5 ((bytesRow s C).size, (bytesRow s C).size + 1))).drew := rfl
  have HCC := hide (conv_cells (w.alloc (.cells #[.int .u8 s.size] 5)) s C 5 ((bytesRow s C).size, (bytesRow s C).size + 1) (w.heap.size + 1) (by simp))
  have B1 := hide (show Below (w.alloc (.cells #[.int .u8 s.size] 5)).heap.size (w.alloc (.cells #[.int .u8 s.size] 5)) ((w.alloc (.cells #[.int .u8 s.size] 5)).alloc (.cells (bytesRow s C) 5 ((bytesRow s C).size, (bytesRow s C).size + 1))).drew from (below_alloc _ _).drew)
  have O1 := hide (ownsRow_below (made_one w (.int .u8 s.size) 5 w.heap.size w.heap.size (Nat.le_refl _) rfl) B1.out)
  have B2 := hide (below_next (below_alloc w _) B1.out)
  have n1 : w.heap.size ≤ ((w.alloc (.cells #[.int .u8 s.size] 5)).alloc (.cells (bytesRow s C) 5 ((bytesRow s C).size, (bytesRow s C).size + 1))).drew.heap.size := B2.out.size
  have N1 := hide n1
  rw [OO] at HCC
  clear OO B1 n1
  go_enter Try.func35, Try.ntmps35
  go_wp2_with (first | (at_builtin; refine wpList_app rfl (.tmp 8) (.tmp 10) 22 rfl w.heap.size 5 i0 (.int .u8 0) 1 1 Try.underlying22 hi0 hz0 hz1 hz2 rfl (by decide) _ 1 _ rfl O1.out ⟨w.heap.size + 1, 0, none⟩ s.size C (Lib.strCells s) rfl (by rw [Lib.strCells_length]; omega) HCC.out (Lib.strCells_oneCell s) HZ.length (by rw [HH1.out]; omega) (by unfold maxLen; omega) (by omega) N1.out ?_; intro av cv w2 ho2 hk2; have O2 : Hid (w2.ownsRow w.heap.size 5 1 (.slice av HZ.length cv) HZ.length (HZ.map (Value.int .u8))) := hide (by rw [← HHC.out]; exact ho2); have K2 := hide (show Kept (fun b => some w.heap.size = some b) _ w2 from hk2); clear ho2 hk2) | fail)
  have B3 := hide (B2.out.trans (K2.out.below N1.out (fun k hk e => by simp at e; omega)))
  have n2 := Nat.le_trans N1.out K2.out.size
  clear K2 B2 O1 HCC N1
  refine (specDigestOf_any av cv HZ w2 (ownsRow_own O2.out rfl).reads HHU.out (by omega)).mono ?_
  rintro e w3 ⟨rfl, rfl⟩
  obtain ⟨d0, d1⟩ := digest_range HZ
  generalize hD : digest HZ = D at *
  clear hD hcv
  have hm1 : HZ.length + 4 ≤ maxLen := by unfold maxLen; omega
  have hm2 : (HZ.length + 4) * 1 ≤ 140737488355328 := by omega
  have n3 : w.heap.size ≤ (w3.alloc (.cells #[.int .u8 (D / 16777216 % 256), .int .u8 (D / 65536 % 256), .int .u8 (D / 256 % 256), .int .u8 (D % 256)] 5)).heap.size := by simp; omega
  have hpl : PZ.length = HZ.length + 4 := by rw [HPZ.out]; simp [tailZ]
  have HPL := hide hpl
  clear hpl
  have HQ := hide (show D / 16777216 % 256 = D / 16777216 by omega)
  go_wp2_with (first | (at_builtin; refine wpList_app rfl (.tmp 14) (.tmp 26) 22 rfl w.heap.size 5 i0 (.int .u8 0) 1 1 Try.underlying22 hi0 hz0 hz1 hz2 rfl (by decide) _ HZ.length _ rfl (ownsRow_below O2.out (below_alloc _ _)) ⟨w3.heap.size, 0, none⟩ 4 4 ((tailZ D).map (Value.int .u8)) rfl rfl (by intro j u hu; rw [addr_add, Nat.zero_add, cell_of_row _ w3.heap.size j _ _ (0, 0) (heap_alloc_new w3 _)]; rw [← hu]; simp [tailZ, HQ.out]) (by intro u hu; simp [tailZ] at hu; rcases hu with rfl | rfl | rfl | rfl <;> rfl) PZ.length HPL.out.symm hm1 hm2 (by simp; omega) ?_; intro av' cv' w4 ho4 hk4; have O4 : Hid (w4.ownsRow w.heap.size 5 1 (.slice av' PZ.length cv') PZ.length (PZ.map (Value.int .u8))) := hide (by rw [HPZ.out, List.map_append]; rw [HPZ.out] at ho4; exact ho4); have K4 := hide (show Kept (fun b => (Value.slice av HZ.length cv).ownBlock = some b) _ w4 from hk4); clear ho4 hk4) | fail)
  go_ret
  exact ⟨av', cv', rfl, GB.mk O4.out rfl, Kept.below_own (below_next B3.out ((below_alloc w3 _).mono (Nat.le_refl _))) (by simp; omega) (ownsRow_below O2.out (below_alloc _ _)) K4.out⟩
end Go.Proofs.Ytpikgmbjgfdcfab

