/-
  Texts put together: Mem LogL Bytes Digest BytesR AppL LogP LogQ.
-/
import Derived.Test.YtpikgmbjgfdcfaaRows
import Derived.WalkKit
import Derived.WalkSpells
import Derived.WalkLawsBesides
import Derived.Deep.OwnRows
import Derived.BigQuiet
import Derived.Deep.QuietTactic
import Derived.Carry
import Derived.Maps.AppendAt
import Derived.Lib.AppendStr
import Derived.Laws.IdiomStrings
import Derived.Laws.BytesArg
namespace Go.Proofs.Ytpikgmbjgfdcfaa
open Go.RowKit
set_option linter.unusedVariables false

theorem hide {p : Prop} (h : p) : Hid p := h

theorem ret_bool {a b : Bool} (h : a = b) : Ending.returned (.bool a) = .returned (.bool b) := by rw [h]
theorem ret_int {k : IntKind} {a b : Int} (h : a = b) : Ending.returned (.int k a) = .returned (.int k b) := by rw [h]

def Reads (k : IntKind) (w : World) (a : Option Addr) (zs : List Int) : Prop :=
  zs ≠ [] → ∃ b off, a = some ⟨b, off, none⟩ ∧ b < w.heap.size ∧ ∀ i, i < zs.length → w.cell? ⟨b, off + i, none⟩ = some (.int k (zs.getD i 0))

structure Kept (S : Nat → Prop) (w w' : World) : Prop where
  os : w'.os = w.os
  tape : w'.tape = w.tape
  output : w'.output = w.output
  size : w.heap.size ≤ w'.heap.size
  block : ∀ k, k < w.heap.size → ¬ S k → w'.heap[k]? = w.heap[k]?

namespace Kept
variable {S T : Nat → Prop} {w w' w'' : World}
theorem refl (S : Nat → Prop) (w : World) : Kept S w w := ⟨rfl, rfl, rfl, Nat.le_refl _, fun _ _ _ => rfl⟩
theorem trans (h : Kept S w w') (k : Kept S w' w'') : Kept S w w'' :=
  ⟨k.os.trans h.os, k.tape.trans h.tape, k.output.trans h.output, Nat.le_trans h.size k.size, fun i hi hn => (k.block i (Nat.lt_of_lt_of_le hi h.size) hn).trans (h.block i hi hn)⟩
theorem mono (h : Kept S w w') (hs : ∀ k, k < w.heap.size → S k → T k) : Kept T w w' := ⟨h.os, h.tape, h.output, h.size, fun k hk hn => h.block k hk (fun hS => hn (hs k hk hS))⟩
theorem drew (h : Kept S w w') : Kept S w w'.drew := ⟨h.os, h.tape, h.output, h.size, h.block⟩
theorem drewN (h : Kept S w w') : ∀ n, Kept S w (w'.drewN n)
  | 0 => h
  | n + 1 => (drewN h n).drew
theorem alloc (h : Kept S w w') (o : Obj) : Kept S w (w'.alloc o) :=
  ⟨h.os, h.tape, h.output, Nat.le_trans h.size (by simp), fun k hk hn => (Below.heap_alloc _ _ _ (Nat.lt_of_lt_of_le hk h.size)).trans (h.block k hk hn)⟩
theorem setCell (h : Kept S w w') {p : Addr} (hp : p.block < w.heap.size → S p.block) (u : Value) : Kept S w (w'.setCell p u) :=
  ⟨h.os, h.tape, h.output, Nat.le_trans h.size (by simp [World.setCell]), fun k hk hn => (Below.heap_setCell _ _ _ _ (fun e => by subst e; exact hn (hp hk))).trans (h.block k hk hn)⟩
theorem cell (h : Kept S w w') {p : Addr} (hp : p.block < w.heap.size) (hn : ¬ S p.block) : w'.cell? p = w.cell? p := World.cell?_of_block (w := w) (h.block _ hp hn)
theorem frozen (h : Kept S w w') {p : Addr} (hp : p.block < w.heap.size) (hn : ¬ S p.block) : w'.frozen? p = w.frozen? p := World.frozen?_of_block (w := w) (h.block _ hp hn)
theorem below (h : Kept S w w') {B : Nat} (hB : B ≤ w.heap.size) (hS : ∀ k, k < B → ¬ S k) : Below B w w' := ⟨h.os, h.tape, h.output, h.size, fun k hk => h.block k (by omega) (hS k hk)⟩
theorem trans_own (h : Kept S w w') (k : Kept T w' w'') (hn : ∀ b, b < w.heap.size → ¬ T b) : Kept S w w'' :=
  ⟨k.os.trans h.os, k.tape.trans h.tape, k.output.trans h.output, Nat.le_trans h.size k.size, fun i hi hs => (k.block i (Nat.lt_of_lt_of_le hi h.size) (hn i hi)).trans (h.block i hi hs)⟩
theorem of_below (h : Below w.heap.size w w') : Kept S w w' := ⟨h.os, h.tape, h.output, h.size, fun k hk _ => h.block k hk⟩
end Kept

theorem Kept.two (w : World) (b i j : Nat) (u v : Value) : Kept (fun x => x = b) w ((w.setCell ⟨b, i, none⟩ u).setCell ⟨b, j, none⟩ v) :=
  Kept.setCell (S := fun x => x = b) (p := ⟨b, j, none⟩) (Kept.setCell (S := fun x => x = b) (p := ⟨b, i, none⟩) (Kept.refl _ w) (fun _ => rfl) u) (fun _ => rfl) v

def Two (w : World) (b : Nat) (u v : Value) : Prop := w.cell? ⟨b, 0, none⟩ = some u ∧ w.cell? ⟨b, 1, none⟩ = some v
theorem Two.lt {w : World} {b : Nat} {u v : Value} (h : Two w b u v) : b < w.heap.size := World.block_lt_of_cell? w ⟨b, 0, none⟩ h.1
theorem Two.kept {S : Nat → Prop} {w w' : World} {b : Nat} {u v : Value} (h : Two w b u v) (hk : Kept S w w') (hn : ¬ S b) : Two w' b u v :=
  ⟨(hk.cell (p := ⟨b, 0, none⟩) h.lt hn).trans h.1, (hk.cell (p := ⟨b, 1, none⟩) h.lt hn).trans h.2⟩
theorem Two.below {w w' : World} {b : Nat} {u v : Value} (h : Two w b u v) (hk : Below w.heap.size w w') : Two w' b u v :=
  h.kept (S := fun _ => False) (Kept.of_below hk) id
theorem Two.new (w : World) (u v : Value) (t : TypeId) : Two (w.alloc (.cells #[u, v] t)) w.heap.size u v := ⟨by simp, by simp⟩
def Box (w : World) (b : Nat) (u v : Value) : Prop := Two w b u v ∧ w.frozen? ⟨b, 0, none⟩ = false ∧ w.frozen? ⟨b, 1, none⟩ = false
theorem Box.kept {S : Nat → Prop} {w w' : World} {b : Nat} {u v : Value} (h : Box w b u v) (hk : Kept S w w') (hn : ¬ S b) : Box w' b u v :=
  ⟨h.1.kept hk hn, (hk.frozen (p := ⟨b, 0, none⟩) h.1.lt hn).trans h.2.1, (hk.frozen (p := ⟨b, 1, none⟩) h.1.lt hn).trans h.2.2⟩
theorem Box.below {w w' : World} {b : Nat} {u v : Value} (h : Box w b u v) (hk : Below w.heap.size w w') : Box w' b u v :=
  h.kept (S := fun _ => False) (Kept.of_below hk) id
theorem Box.new (w : World) (u v : Value) (t : TypeId) : Box (w.alloc (.cells #[u, v] t)) w.heap.size u v := ⟨Two.new w u v t, by simp, by simp⟩
theorem below_alloc (w : World) (o : Obj) : Below w.heap.size w (w.alloc o) := (Below.refl _ _).alloc (Nat.le_refl _) _
theorem below_next {w w' w'' : World} (h : Below w.heap.size w w') (k : Below w'.heap.size w' w'') : Below w.heap.size w w'' := h.trans (k.mono h.size)

theorem Reads.kept {k : IntKind} {S : Nat → Prop} {w w' : World} {a : Option Addr} {zs : List Int} (h : Reads k w a zs) (hk : Kept S w w') (hn : zs ≠ [] → ∀ x, a = some x → ¬ S x.block) : Reads k w' a zs := by
  intro hz
  obtain ⟨b, off, rfl, hb, hc⟩ := h hz
  exact ⟨b, off, rfl, Nat.lt_of_lt_of_le hb hk.size, fun i hi => (hk.cell (p := ⟨b, off + i, none⟩) hb (hn hz ⟨b, off, none⟩ rfl)).trans (hc i hi)⟩

theorem Reads.below {k : IntKind} {w w' : World} {a : Option Addr} {zs : List Int} (h : Reads k w a zs) (hk : Below w.heap.size w w') : Reads k w' a zs :=
  h.kept (S := fun _ => False) (Kept.of_below hk) (fun _ _ _ => id)

def U8 (zs : List Int) : Prop := ∀ z ∈ zs, 0 ≤ z ∧ z ≤ 255
theorem U8.get {zs : List Int} (h : U8 zs) (i : Nat) : 0 ≤ zs.getD i 0 ∧ zs.getD i 0 ≤ 255 := by
  by_cases hi : i < zs.length
  · have e : zs.getD i 0 = zs[i] := by simp [List.getD_eq_getElem?_getD, hi]
    rw [e]; exact h _ (List.getElem_mem hi)
  · have e : zs.getD i 0 = 0 := by simp [List.getD_eq_getElem?_getD, List.getElem?_eq_none (Nat.le_of_not_lt hi)]
    rw [e]; omega

theorem reads_of_row {W : World} {x : Addr} {l c : Nat} {zs : List Int} (hz : zs.length = c) (hl : l ≤ c) (hm : c ≤ maxLen) (hcell : ∀ i, i < zs.length → W.cell? (x.add i) = some (.int .u8 (zs.getD i 0))) (hwz : ∀ n ∈ zs, (Lit.int .u8 n).wf = true) :
    ∃ ys : List Int, ys.length = l ∧ Reads .u8 W (some x) ys ∧ U8 ys ∧ ys.length ≤ maxLen := by
  have hlen : (zs.take l).length = l := by simp; omega
  refine ⟨zs.take l, hlen, ?_, ?_, by omega⟩
  · intro hne
    have h0 : 0 < l := by
      rcases Nat.eq_zero_or_pos l with h | h
      · subst h; exact absurd rfl hne
      · exact h
    obtain ⟨b, off, spot⟩ := x
    have hc := hcell 0 (by omega)
    have hspot : spot = none := by simpa [Addr.add] using World.cell?_spot hc
    subst hspot
    refine ⟨b, off, rfl, World.block_lt_of_cell? W _ (by simpa [Addr.add] using hc), fun i hi => ?_⟩
    have := hcell i (by omega)
    have e : (zs.take l).getD i 0 = zs.getD i 0 := by
      have h2 : i < l := by omega
      simp [List.getD_eq_getElem?_getD, h2]
    rw [e]
    have ea : (⟨b, off, none⟩ : Addr).add i = ⟨b, off + i, none⟩ := by unfold Addr.add; split <;> simp_all
    rw [ea] at this
    exact this
  · intro z hz'
    have := hwz z (List.mem_of_mem_take hz')
    simp [Lit.wf, IntKind.min, IntKind.max, IntKind.signed, IntKind.bits] at this
    omega

theorem cell_set_same {w : World} {a : Addr} {v u : Value} (h : w.cell? a = some u) : (w.setCell a v).cell? a = some v :=
  World.cell?_setCell_same' w a v (by rw [h]; rfl)
theorem cell_set_other {w : World} {a b : Addr} {v : Value} (h : a ≠ b) : (w.setCell a v).cell? b = w.cell? b := by
  apply World.cell?_setCell_other; exact h
theorem cell_set_far {w : World} {b o b' o' : Nat} {v u : Value} (h : b ≠ b') (hc : w.cell? ⟨b', o', none⟩ = some u) : (w.setCell ⟨b, o, none⟩ v).cell? ⟨b', o', none⟩ = some u :=
  (World.cell?_of_block (a := ⟨b', o', none⟩) (w := w) (Below.heap_setCell w ⟨b, o, none⟩ v b' (fun e => h e.symm))).trans hc

theorem wpList_append_one {P : Program} {wr : World} {news : Array Value} {ops : Array Oper} {rest : List Oper} {o : Oper} {a : Act} {Q : Exit → Act → World → Prop} (hgd : o.guard = none) (s x : Operand) (t : TypeId)
    (ho : o.op = .call { callee := .builtin .append, args := #[s, x], argTypes := #[t, t] })
    (base : Nat) (e : TypeId) (i : TypeInfo) (z : Value) (size bytes : Nat) (ht : P.underlying t = some (.slice e)) (hi : P.info? e = some i) (hz : i.zero = some z)
    (hsize : i.size = size) (hby : i.bytes = bytes) (hzs : z.cells.size = size) (hsz : 0 < size)
    (v : Value) (n : Nat) (xs : List Value) (hs : a.eval s = v) (hown : wr.ownsRow base e size v n xs)
    (hx : a.eval x = .slice (some ⟨wr.heap.size, 0, none⟩) 1 1) (hl : news.size = size) (h1 : ∀ u ∈ news.toList, u.oneCell' = true)
    (h63 : n + 1 ≤ maxLen) (hbytes : (n + 1) * bytes ≤ 140737488355328) (hbase : base ≤ wr.heap.size)
    (h : ∀ v' w', w'.ownsRow base e size v' (n + 1) (xs ++ news.toList) → Kept (fun b => v.ownBlock = some b) wr w' → wpList P ops Q rest (a.put o.dst v') w') :
    wpList P ops Q (o :: rest) a (wr.alloc (.cells news e)) := by
  refine wpList_append_own _ hgd s x t ho base e i z size bytes ht hi hz hsize hby hzs hsz v n xs hs (hown.alloc _) ⟨wr.heap.size, 0, none⟩ 1 1 news.toList hx (by simp [hl]) ?_ h1 h63 hbytes (by simp; omega) ?_
  · intro j u hj
    have hadd : (⟨wr.heap.size, 0, none⟩ : Addr).add j = ⟨wr.heap.size, j, none⟩ := by unfold Addr.add; split <;> simp_all
    rw [hadd, cell_of_row _ wr.heap.size j news e (0, 0) (heap_alloc_new wr _)]
    simpa using hj
  · intro v' w' ho' hg _
    refine h v' w' ho' ⟨hg.os, hg.tape, hg.output, Nat.le_trans (by simp) hg.size, fun k hk hn => ?_⟩
    rw [hg.block k (by simp; omega) (fun e => hn e.symm)]
    exact Below.heap_alloc _ _ _ hk

theorem Kept.below_own {w w' wr : World} {B : Nat} {v : Value} {e : TypeId} {size n : Nat} {xs : List Value} (hb : Below B w wr) (hB : B ≤ wr.heap.size) (hown : wr.ownsRow B e size v n xs) (hk : Kept (fun b => v.ownBlock = some b) wr w') : Below B w w' :=
  hb.trans (hk.below hB (fun k hk' he => by have := (hown.lt k he).1; omega))

theorem ownsRow_kept {S : Nat → Prop} {w w' : World} {base : Nat} {e : TypeId} {size : Nat} {v : Value} {n : Nat} {xs : List Value} (h : w.ownsRow base e size v n xs) (hk : Kept S w w') (hn : ∀ b, v.ownBlock = some b → ¬ S b) : w'.ownsRow base e size v n xs := by
  refine ⟨h.1, ?_⟩
  rcases h.2 with hz | ⟨g, cap, cur, rfl, hb, hgg, rest⟩
  · exact .inl hz
  · refine .inr ⟨g, cap, cur, rfl, hb, ?_, rest⟩
    rw [hk.block g (Array.getElem?_eq_some_iff.1 hgg).1 (hn g rfl)]
    exact hgg
theorem ownsRow_below {w w' : World} {base : Nat} {e : TypeId} {size : Nat} {v : Value} {n : Nat} {xs : List Value} (h : w.ownsRow base e size v n xs) (hk : Below w.heap.size w w') : w'.ownsRow base e size v n xs :=
  ownsRow_kept (S := fun _ => False) h (Kept.of_below hk) (fun _ _ => id)
theorem ownsRow_mono {w : World} {base base' : Nat} {e : TypeId} {size : Nat} {v : Value} {n : Nat} {xs : List Value} (h : w.ownsRow base e size v n xs) (hb : base' ≤ base) : w.ownsRow base' e size v n xs := by
  refine ⟨h.1, ?_⟩
  rcases h.2 with hz | ⟨g, cap, cur, hv, hg, rest⟩
  · exact .inl hz
  · exact .inr ⟨g, cap, cur, hv, by omega, rest⟩
theorem ownsRow_shape {w : World} {base : Nat} {e : TypeId} {size : Nat} {v : Value} {n : Nat} {xs : List Value} (h : w.ownsRow base e size v n xs) : ∃ a c, v = .slice a n c := by
  rcases h.2 with ⟨rfl, rfl⟩ | ⟨g, cap, cur, rfl, _⟩
  · exact ⟨_, _, rfl⟩
  · exact ⟨_, _, rfl⟩
def Own (k : IntKind) (w : World) (a : Option Addr) (zs : List Int) : Prop :=
  zs ≠ [] → ∃ b off, a = some ⟨b, off, none⟩ ∧ b < w.heap.size ∧ ∀ i, i < zs.length → w.cell? ⟨b, off + i, none⟩ = some (.int k (zs.getD i 0)) ∧ w.frozen? ⟨b, off + i, none⟩ = false
theorem Own.reads {k : IntKind} {w : World} {a : Option Addr} {zs : List Int} (h : Own k w a zs) : Reads k w a zs := by
  intro hz
  obtain ⟨b, off, e, hb, hc⟩ := h hz
  exact ⟨b, off, e, hb, fun i hi => (hc i hi).1⟩
theorem ownsRow_of_row {w : World} {B b : Nat} {t : TypeId} {k : IntKind} {zs : List Int} (h : w.rowIs b t zs.length (fun i => .int k (zs.getD i 0))) (hb : B ≤ b) (hm : zs.length ≤ maxLen) :
    w.ownsRow B t 1 (.slice (some ⟨b, 0, none⟩) zs.length zs.length) zs.length (zs.map (Value.int k)) := by
  obtain ⟨c, hh, hs, hc⟩ := h
  refine ⟨by simp, .inr ⟨b, zs.length, c, rfl, hb, hh, Nat.le_refl _, hm, by omega, ?_⟩⟩
  apply List.ext_getElem?
  intro i
  by_cases hi : i < zs.length
  · rw [List.getElem?_take, if_pos (by omega)]
    have := hc i hi
    simp [List.getD_eq_getElem?_getD, hi] at this ⊢
    exact this
  · rw [List.getElem?_take, if_neg (by omega), List.getElem?_eq_none (by simpa using hi)]

theorem ownsRow_cap {w : World} {base : Nat} {e : TypeId} {size : Nat} {a : Option Addr} {n c : Nat} {xs : List Value} (h : w.ownsRow base e size (.slice a n c) n xs) : n ≤ c := by
  rcases h.2 with ⟨h', rfl⟩ | ⟨g, cap, cur, h', _, _, hc, _⟩
  · omega
  · simp only [Value.slice.injEq, true_and] at h'
    omega

def ahead (P : Nat → List Int) : Nat → Nat
  | 0 => 0
  | i + 1 => ahead P i + (P i).length

theorem ownsRow_own {w : World} {B : Nat} {e : TypeId} {k : IntKind} {a : Option Addr} {n c : Nat} {zs : List Int} (h : w.ownsRow B e 1 (.slice a n c) n (zs.map (Value.int k))) (hn : n = zs.length) : Own k w a zs := by
  intro hz
  have h0 : 0 < n := by rw [hn]; exact List.length_pos_iff.2 hz
  rcases h.2 with ⟨h', _⟩ | ⟨g, cap, cur, h', hb, hh, hnc, hcm, hcs, htake⟩
  · simp only [Value.slice.injEq] at h'
    omega
  · simp only [Value.slice.injEq, true_and] at h'
    obtain ⟨rfl, rfl⟩ := h'
    refine ⟨g, 0, rfl, (h.lt g rfl).2, fun i hi => ⟨?_, h.frozenAt _⟩⟩
    rw [Nat.zero_add, h.cellAt i (by omega)]
    simp [List.getD_eq_getElem?_getD, hi]

end Go.Proofs.Ytpikgmbjgfdcfaa

namespace Go.Proofs.Ytpikgmbjgfdcfaa
open Go.RowKit
set_option linter.unusedVariables false

def lineB (c : UInt8) : Bool := decide (32 ≤ (c.toNat : Int) ∧ (c.toNat : Int) ≤ 126)
def lineF (l : List UInt8) : Int := if 1 ≤ l.length ∧ l.length ≤ 60 then (if l.all lineB then 0 else 5) else 2
theorem line_snoc (s : ByteArray) (k : Nat) (h : k < s.size) : s.data.toList.take (k + 1) = s.data.toList.take k ++ [s[k]] := by
  rw [List.take_succ_eq_append_getElem (by simpa using h)]; rfl
theorem line_take {s : ByteArray} {k : Nat} (h : k < s.size) (ha : (s.data.toList.take k).all lineB = true) (hc : lineB s[k] = true) : (s.data.toList.take (k + 1)).all lineB = true := by
  rw [line_snoc s k h]; simp [ha, hc]
theorem line_len (s : ByteArray) : s.data.toList.length = s.size := by simp
theorem lineF_bad {s : ByteArray} (h : ¬ (1 ≤ s.size ∧ s.size ≤ 60)) : lineF s.data.toList = 2 := by
  unfold lineF; rw [line_len, if_neg h]
theorem lineF_stop {s : ByteArray} {k : Nat} (hl : 1 ≤ s.size ∧ s.size ≤ 60) (h : k < s.size) (hc : lineB s[k] = false) : lineF s.data.toList = 5 := by
  have : s[k] ∈ s.data.toList := Array.mem_toList_iff.2 (Array.getElem_mem (xs := s.data) (i := k) h)
  have h2 : s.data.toList.all lineB = false := by
    rw [List.all_eq_false]; exact ⟨_, this, by simp [hc]⟩
  unfold lineF; rw [line_len, if_pos hl, h2]; rfl
theorem lineB_yes {c : UInt8} (h1 : ¬ (c.toNat : Int) < 32) (h2 : ¬ 126 < (c.toNat : Int)) : lineB c = true := decide_eq_true ⟨by omega, by omega⟩
theorem lineB_no {c : UInt8} (h : (c.toNat : Int) < 32 ∨ 126 < (c.toNat : Int)) : lineB c = false := decide_eq_false (by omega)
theorem lineF_end {s : ByteArray} {k : Nat} (hl : 1 ≤ s.size ∧ s.size ≤ 60) (hk : s.size ≤ k) (ha : (s.data.toList.take k).all lineB = true) : lineF s.data.toList = 0 := by
  rw [List.take_of_length_le (by simpa using hk)] at ha
  unfold lineF; rw [line_len, if_pos hl, ha]; rfl

set_option maxHeartbeats 400000 in
theorem specLineFault_any (s : ByteArray) (w : World) (hs : s.size ≤ 9223372036854775807) :
    Calls Try.prog 56 #[.string s] w fun e w' => e = .returned (.int .i64 (lineF s.data.toList)) ∧ w' = w := by
  by_cases h1 : s.size < 1
  · have HN := hide (lineF_bad (s := s) (by omega))
    go_enter Try.func56, Try.ntmps56
    go_wp2
    go_ret
    exact ⟨ret_int HN.out.symm, rfl⟩
  by_cases h2 : 60 < s.size
  · have HN := hide (lineF_bad (s := s) (by omega))
    go_enter Try.func56, Try.ntmps56
    go_wp2
    go_ret
    exact ⟨ret_int HN.out.symm, rfl⟩
  have HL := hide (show 1 ≤ s.size ∧ s.size ≤ 60 by omega)
  go_enter Try.func56, Try.ntmps56
  go_wp2
  go_loop [3] (fun i => ∃ k : Nat, k ≤ s.size ∧ i = .int .i64 k ∧ (s.data.toList.take k).all lineB = true) (fun i => s.size - (intOf i).toNat)
  case atStart => exact ⟨0, Nat.zero_le _, rfl, rfl⟩
  case round =>
    obtain ⟨k, hk, rfl, ha⟩ := hrel
    have HA := hide ha
    clear ha
    by_cases hlt : k < s.size
    · by_cases c1 : (s[k].toNat : Int) < 32
      · have HN := hide (lineF_stop HL.out hlt (lineB_no (.inl c1)))
        go_wp2
        go_ret
        exact ⟨ret_int HN.out.symm, rfl⟩
      · by_cases c2 : 126 < (s[k].toNat : Int)
        · have HN := hide (lineF_stop HL.out hlt (lineB_no (.inr c2)))
          go_wp2
          go_ret
          exact ⟨ret_int HN.out.symm, rfl⟩
        · have HN := hide (line_take hlt HA.out (lineB_yes c1 c2))
          go_wp2
          go_round
          case rel => exact ⟨k + 1, by omega, by go_num, HN.out⟩
          case measure => simp [intOf]; omega
    · have HN := hide (lineF_end HL.out (by omega : s.size ≤ k) HA.out)
      go_wp2
      go_ret
      exact ⟨ret_int HN.out.symm, rfl⟩

set_option maxHeartbeats 400000 in
theorem implLineFault_any (s : ByteArray) (w : World) (hs : s.size ≤ 9223372036854775807) :
    Calls Try.prog 18 #[.string s] w fun e w' => e = .returned (.int .i64 (lineF s.data.toList)) ∧ w' = w := by
  by_cases h1 : s.size < 1
  · have HN := hide (lineF_bad (s := s) (by omega))
    go_enter Try.func18, Try.ntmps18
    go_wp2
    go_ret
    exact ⟨ret_int HN.out.symm, rfl⟩
  by_cases h2 : 60 < s.size
  · have HN := hide (lineF_bad (s := s) (by omega))
    go_enter Try.func18, Try.ntmps18
    go_wp2
    go_ret
    exact ⟨ret_int HN.out.symm, rfl⟩
  have HL := hide (show 1 ≤ s.size ∧ s.size ≤ 60 by omega)
  go_enter Try.func18, Try.ntmps18
  go_wp2
  go_loop [3, 14] (fun _ i => ∃ k : Nat, k ≤ s.size ∧ i = .int .i64 k ∧ (s.data.toList.take k).all lineB = true) (fun _ i => s.size - (intOf i).toNat)
  case atStart => exact ⟨0, Nat.zero_le _, rfl, rfl⟩
  case round =>
    obtain ⟨k, hk, rfl, ha⟩ := hrel
    have HA := hide ha
    clear ha
    by_cases hlt : k < s.size
    · by_cases c1 : (s[k].toNat : Int) < 32
      · have HN := hide (lineF_stop HL.out hlt (lineB_no (.inl c1)))
        go_wp2
        go_ret
        exact ⟨ret_int HN.out.symm, rfl⟩
      · by_cases c2 : 126 < (s[k].toNat : Int)
        · have HN := hide (lineF_stop HL.out hlt (lineB_no (.inr c2)))
          go_wp2
          go_ret
          exact ⟨ret_int HN.out.symm, rfl⟩
        · have HN := hide (line_take hlt HA.out (lineB_yes c1 c2))
          go_wp2
          go_round
          case rel => exact ⟨k + 1, by omega, by go_num, HN.out⟩
          case measure => simp [intOf]; omega
    · have HN := hide (lineF_end HL.out (by omega : s.size ≤ k) HA.out)
      go_wp2
      go_ret
      exact ⟨ret_int HN.out.symm, rfl⟩
end Go.Proofs.Ytpikgmbjgfdcfaa

namespace Go.Proofs.Ytpikgmbjgfdcfaa
open Go.RowKit
set_option linter.unusedVariables false

theorem Try.infoU8 : (Try.prog.info? 5).map (fun i => (i.zero, i.size, i.bytes)) = some (some (.int .u8 0), 1, 1) := by kernel_rfl

end Go.Proofs.Ytpikgmbjgfdcfaa

namespace Go.Proofs.Ytpikgmbjgfdcfaa
open Go.RowKit
set_option linter.unusedVariables false

def fnvStep (h z : Int) : Int := bits BinOp.xor IntKind.u32 h z * 16777619 % 4294967296
def fnv (zs : List Int) : Int := zs.foldl fnvStep 2166136261
def digest (zs : List Int) : Int := wrap64 (bits BinOp.xor IntKind.u32 (fnv zs) ((zs.length : Int) * 65536 % 4294967296))
theorem fnv_step {zs : List Int} {k : Nat} {z : Int} (hk : k < zs.length) (hz : zs.getD k 0 = z) : fnv (zs.take (k + 1)) = fnvStep (fnv (zs.take k)) z := by
  unfold fnv
  rw [List.take_succ_eq_append_getElem hk, List.foldl_append]
  simp [List.getD_eq_getElem?_getD, hk] at hz
  simp [hz]

set_option maxHeartbeats 400000 in
theorem specDigestOf_any (a : Option Addr) (cap : Nat) (zs : List Int) (w : World) (h : Reads .u8 w a zs) (hu : U8 zs) (hl : zs.length ≤ 1048576) :
    Calls Try.prog 72 #[.slice a zs.length cap] w fun e w' => e = .returned (.int .i64 (digest zs)) ∧ w' = w := by
  go_enter Try.func72, Try.ntmps72
  go_wp2
  go_loop [3, 4] (fun h i => ∃ k : Nat, k ≤ zs.length ∧ i = .int .i64 k ∧ h = .int .u32 (fnv (zs.take k))) (fun _ i => zs.length - (intOf i).toNat)
  case atStart => exact ⟨0, Nat.zero_le _, rfl, rfl⟩
  case round =>
    obtain ⟨k, hk, rfl, rfl⟩ := hrel
    generalize hx : fnv (zs.take k) = x
    have HX := hide hx
    clear hx
    by_cases hlt : k < zs.length
    · obtain ⟨b, off, rfl, hb, hc⟩ := h (by intro e; simp [e] at hlt)
      have hz01 := hu.get k
      have hc1 := hc k hlt
      generalize hz : zs.getD k 0 = z at hz01 hc1
      have HZ := hide hz
      have HC := hide hc
      clear hc h hz
      go_wp2
      go_round
      case rel => exact ⟨k + 1, by omega, by go_num, by rw [fnv_step hlt HZ.out, HX.out]; rfl⟩
      case measure => simp [intOf]; omega
    · go_wp2
      go_ret
      exact ⟨ret_int (by unfold digest; rw [← HX.out, List.take_of_length_le (by omega)]), rfl⟩

set_option maxHeartbeats 400000 in
theorem implDigestOf_any (a : Option Addr) (cap : Nat) (zs : List Int) (w : World) (h : Reads .u8 w a zs) (hu : U8 zs) (hl : zs.length ≤ 1048576) :
    Calls Try.prog 55 #[.slice a zs.length cap] w fun e w' => e = .returned (.int .i64 (digest zs)) ∧ w' = w := by
  go_enter Try.func55, Try.ntmps55
  go_wp2
  go_loop [3, 5, 8] (fun h _ i => ∃ k : Nat, k ≤ zs.length ∧ i = .int .i64 k ∧ h = .int .u32 (fnv (zs.take k))) (fun _ _ i => zs.length - (intOf i).toNat)
  case atStart => exact ⟨0, Nat.zero_le _, rfl, rfl⟩
  case round =>
    obtain ⟨k, hk, rfl, rfl⟩ := hrel
    generalize hx : fnv (zs.take k) = x
    have HX := hide hx
    clear hx
    by_cases hlt : k < zs.length
    · obtain ⟨b, off, rfl, hb, hc⟩ := h (by intro e; simp [e] at hlt)
      have hz01 := hu.get k
      have hc1 := hc k hlt
      generalize hz : zs.getD k 0 = z at hz01 hc1
      have HZ := hide hz
      have HC := hide hc
      clear hc h hz
      go_wp2
      go_round
      case rel => exact ⟨k + 1, by omega, by go_num, by rw [fnv_step hlt HZ.out, HX.out]; rfl⟩
      case measure => simp [intOf]; omega
    · go_wp2
      go_ret
      exact ⟨ret_int (by unfold digest; rw [← HX.out, List.take_of_length_le (by omega)]), rfl⟩

theorem bits_u32 (op : BinOp) (x y : Int) : 0 ≤ bits op .u32 x y ∧ bits op .u32 x y < 4294967296 := by
  unfold bits
  simp only [IntKind.wrap_u32]
  omega
theorem digest_range (zs : List Int) : 0 ≤ digest zs ∧ digest zs ≤ 4294967295 := by
  have h := bits_u32 .xor (fnv zs) ((zs.length : Int) * 65536 % 4294967296)
  unfold digest wrap64
  omega

end Go.Proofs.Ytpikgmbjgfdcfaa

namespace Go.Proofs.Ytpikgmbjgfdcfaa
open Go.RowKit
set_option linter.unusedVariables false

def GB (B T : Nat) (w : World) (v : Value) (ds : List Int) : Prop :=
  w.ownsRow B 5 1 v ds.length (ds.map (Value.int .u8)) ∧ ∀ b, v.ownBlock = some b → b < T
theorem GB.kept {S : Nat → Prop} {B T : Nat} {w w' : World} {v : Value} {ds : List Int} (h : GB B T w v ds) (hk : Kept S w w') (hS : ∀ b, B ≤ b → b < T → ¬ S b) : GB B T w' v ds :=
  ⟨ownsRow_kept h.1 hk (fun b hb => hS b (h.1.lt b hb).1 (h.2 b hb)), h.2⟩
theorem GB.below {B T : Nat} {w w' : World} {v : Value} {ds : List Int} (h : GB B T w v ds) (hk : Below w.heap.size w w') : GB B T w' v ds :=
  h.kept (S := fun _ => False) (Kept.of_below hk) (fun _ _ _ => id)
theorem GB.mk {B : Nat} {w : World} {v : Value} {ds : List Int} {n : Nat} (h : w.ownsRow B 5 1 v n (ds.map (Value.int .u8))) (hn : n = ds.length) : GB B w.heap.size w v ds := by
  subst hn
  exact ⟨h, fun b hb => (h.lt b hb).2⟩
theorem GB.own {B T : Nat} {w : World} {a : Option Addr} {c : Nat} {ds : List Int} (h : GB B T w (.slice a ds.length c) ds) : Own .u8 w a ds := ownsRow_own h.1 rfl
end Go.Proofs.Ytpikgmbjgfdcfaa

namespace Go.Proofs.Ytpikgmbjgfdcfaa
open Go.RowKit
set_option linter.unusedVariables false

theorem wpList_app {P : Program} {w : World} {ops : Array Oper} {rest : List Oper} {o : Oper} {a : Act} {Q : Exit → Act → World → Prop} (hgd : o.guard = none) (s x : Operand) (t : TypeId)
    (ho : o.op = .call { callee := .builtin .append, args := #[s, x], argTypes := #[t, t] })
    (base : Nat) (e : TypeId) (i : TypeInfo) (z : Value) (size bytes : Nat) (ht : P.underlying t = some (.slice e)) (hi : P.info? e = some i) (hz : i.zero = some z)
    (hsize : i.size = size) (hby : i.bytes = bytes) (hzs : z.cells.size = size) (hsz : 0 < size)
    (v : Value) (n : Nat) (xs : List Value) (hs : a.eval s = v) (hown : w.ownsRow base e size v n xs)
    (ad : Addr) (m c : Nat) (news : List Value) (hx : a.eval x = .slice (some ad) m c) (hl : news.length = m * size) (hnews : ∀ j u, news[j]? = some u → w.cell? (ad.add j) = some u) (h1 : ∀ u ∈ news, u.oneCell' = true)
    (N : Nat) (hN : n + m = N) (h63 : n + m ≤ maxLen) (hbytes : (n + m) * bytes ≤ 140737488355328) (hbase : base ≤ w.heap.size)
    (h : ∀ av cv w', w'.ownsRow base e size (.slice av N cv) N (xs ++ news) → Kept (fun b => v.ownBlock = some b) w w' → wpList P ops Q rest (a.put o.dst (.slice av N cv)) w') :
    wpList P ops Q (o :: rest) a w := by
  refine wpList_append_own w hgd s x t ho base e i z size bytes ht hi hz hsize hby hzs hsz v n xs hs hown ad m c news hx hl hnews h1 h63 hbytes hbase fun v' w' h2 h3 _ => ?_
  rw [hN] at h2
  obtain ⟨av, cv, rfl⟩ := ownsRow_shape h2
  exact h av cv w' h2 ⟨h3.os, h3.tape, h3.output, h3.size, fun q hq hn => h3.block q hq (fun e => hn e.symm)⟩
theorem addr_add (b o j : Nat) : (⟨b, o, none⟩ : Addr).add j = ⟨b, o + j, none⟩ := by unfold Addr.add; split <;> simp_all
end Go.Proofs.Ytpikgmbjgfdcfaa

namespace Go.Proofs.Ytpikgmbjgfdcfaa
open Go.RowKit
set_option linter.unusedVariables false

def headZ (l : List UInt8) : List Int := (l.length : Int) :: l.map fun b => (b.toNat : Int)
def tailZ (d : Int) : List Int := [d / 16777216 % 256, d / 65536 % 256, d / 256 % 256, d % 256]
def packZ (l : List UInt8) : List Int := headZ l ++ tailZ (digest (headZ l))
theorem headZ_len (l : List UInt8) : (headZ l).length = l.length + 1 := by simp [headZ]
theorem packZ_len (l : List UInt8) : (packZ l).length = l.length + 5 := by simp [packZ, headZ, tailZ]
theorem headZ_u8 {l : List UInt8} (h : l.length ≤ 255) : U8 (headZ l) := by
  intro z hz
  simp only [headZ, List.mem_cons, List.mem_map] at hz
  rcases hz with rfl | ⟨b, -, rfl⟩
  · omega
  · have := b.toNat_lt; omega
theorem packZ_u8 {l : List UInt8} (h : l.length ≤ 255) : U8 (packZ l) := by
  intro z hz
  rcases List.mem_append.1 hz with hz | hz
  · exact headZ_u8 h z hz
  · simp only [tailZ, List.mem_cons, List.not_mem_nil, or_false] at hz
    rcases hz with rfl | rfl | rfl | rfl <;> omega
theorem lineF_size {s : ByteArray} (h : lineF s.data.toList = 0) : 1 ≤ s.size ∧ s.size ≤ 60 := by
  by_cases e : 1 ≤ s.size ∧ s.size ≤ 60
  · exact e
  · rw [lineF_bad e] at h; exact absurd h (by decide)
theorem head_cells (s : ByteArray) : [Value.int .u8 (s.size : Int)] ++ Lib.strCells s = (headZ s.data.toList).map (Value.int .u8) := by
  simp [headZ, Lib.strCells]

theorem made_one (w : World) (x : Value) (e : TypeId) (base g : Nat) (hb : base ≤ w.heap.size) (hg : g = w.heap.size) : (w.alloc (.cells #[x] e)).ownsRow base e 1 (.slice (some ⟨g, 0, none⟩) 1 1) 1 [x] := by
  subst hg
  exact ⟨by simp, .inr ⟨w.heap.size, 1, #[x], rfl, hb, heap_alloc_new w _, Nat.le_refl _, by unfold maxLen; omega, by simp, by simp⟩⟩
theorem wpList_app_str {P : Program} {w : World} {ops : Array Oper} {rest : List Oper} {o : Oper} {a : Act} {Q : Exit → Act → World → Prop} (hgd : o.guard = none) (sl x : Operand) (t u : TypeId)
    (ho : o.op = .call { callee := .builtin .append, args := #[sl, x], argTypes := #[t, u] })
    (base : Nat) (e : TypeId) (i : TypeInfo) (ht : P.underlying t = some (.slice e)) (hu : P.underlying u = some .string) (hi : P.info? e = some i) (hz : i.zero = some (.int .u8 0))
    (hsize : i.size = 1) (hby : i.bytes = 1)
    (v : Value) (n : Nat) (xs : List Value) (hs : a.eval sl = v) (hown : w.ownsRow base e 1 v n xs) (s : ByteArray) (hx : a.eval x = .string s)
    (N : Nat) (hN : n + s.size = N) (ys : List Value) (hys : xs ++ Lib.strCells s = ys) (h63 : n + s.size ≤ maxLen) (hbytes : n + s.size ≤ 140737488355328) (hbase : base ≤ w.heap.size)
    (h : ∀ av cv w', w'.ownsRow base e 1 (.slice av N cv) N ys → Kept (fun b => v.ownBlock = some b) w w' → wpList P ops Q rest (a.put o.dst (.slice av N cv)) w') :
    wpList P ops Q (o :: rest) a w := by
  refine Lib.wpList_append_own_string w hgd sl x t u ho base e i ht hu hi hz hsize hby v n xs hs hown s hx h63 hbytes hbase fun v' w' h2 h3 _ => ?_
  rw [hN, hys] at h2
  obtain ⟨av, cv, rfl⟩ := ownsRow_shape h2
  exact h av cv w' h2 ⟨h3.os, h3.tape, h3.output, h3.size, fun q hq hn => h3.block q hq (fun e => hn e.symm)⟩
theorem tail_at {D : Int} (h0 : 0 ≤ D) (h1 : D ≤ 4294967295) {j : Nat} (hj : j < 4) : (tailZ D).take (j + 1) = (tailZ D).take j ++ [D * 256 ^ j % 4294967296 / 16777216] := by
  obtain rfl | rfl | rfl | rfl : j = 0 ∨ j = 1 ∨ j = 2 ∨ j = 3 := by omega
  all_goals simp [tailZ]
  all_goals omega
set_option maxHeartbeats 1600000 in
theorem implPackLine_ok (s : ByteArray) (w : World) (h0 : lineF s.data.toList = 0) :
    Calls Try.prog 17 #[.string s] w fun e w' => ∃ a c, e = .returned (.agg #[.int .i64 0, .slice a (packZ s.data.toList).length c]) ∧ GB w.heap.size w'.heap.size w' (.slice a (packZ s.data.toList).length c) (packZ s.data.toList) ∧ Below w.heap.size w w' := by
  obtain ⟨h1, h2⟩ := lineF_size h0
  obtain ⟨i0, hi0, hz0, hz1, hz2⟩ := info_parts Try.infoU8
  have HLF : Hid (∀ w : World, Calls Try.prog 18 #[.string s] w fun e w' => e = .returned (.int .i64 0) ∧ w' = w) := hide fun w => by have := implLineFault_any s w (by omega); rw [h0] at this; exact this
  have HHL := hide (headZ_len s.data.toList)
  have HHU := hide (headZ_u8 (l := s.data.toList) (by rw [line_len]; omega))
  have HPZ := hide (show packZ s.data.toList = headZ s.data.toList ++ tailZ (digest (headZ s.data.toList)) from rfl)
  have HHC := hide (head_cells s)
  have hll := line_len s
  clear h0
  generalize hP : packZ s.data.toList = PZ at *
  generalize hH : headZ s.data.toList = HZ at *
  have HH1 : Hid (HZ.length = s.size + 1) := hide (by rw [HHL.out, hll])
  have hle : HZ.length ≤ 61 := by rw [HH1.out]; omega
  clear hP hH hll HHL
  go_enter Try.func17, Try.ntmps17
  go_wp2_with fail
  refine (HLF.out _).mono ?_
  rintro e w1 ⟨rfl, rfl⟩
  go_wp2_with (first | (at_builtin; refine wpList_app_str rfl (.tmp 15) (.tmp 16) 22 9 rfl (w.heap.size + 1) 5 i0 Try.underlying22 Try.underlying9 hi0 hz0 hz1 hz2 _ 1 _ rfl (made_one _ _ _ _ _ (by simp) (by simp)) s rfl HZ.length (by rw [HH1.out]; omega) (HZ.map (Value.int .u8)) HHC.out (by unfold maxLen; omega) (by omega) (by simp) ?_; intro av cv w2 ho2 hk2; have O2 := hide ho2; have K2 : Hid (Kept (fun b => some (w.heap.size + 1) = some b) ((w.alloc (.cells #[.int .i64 0, .slice none 0 0] 39)).alloc (.cells #[.int .u8 s.size] 5)) w2) := hide hk2; clear ho2 hk2) | fail)
  have X2 := hide (((Box.new w (.int .i64 0) (.slice none 0 0) 39).below (below_alloc _ (.cells #[.int .u8 s.size] 5))).kept K2.out (by simp))
  have B2 := hide ((below_next (below_alloc w (.cells #[.int .i64 0, .slice none 0 0] 39)) (below_alloc _ (.cells #[.int .u8 s.size] 5))).trans (K2.out.below (by simp; omega) (fun k hk e => by simp at e; omega)))
  have n2 : w.heap.size + 1 ≤ w2.heap.size := by have := K2.out.size; simp at this; omega
  clear K2
  refine (implDigestOf_any av cv HZ w2 (ownsRow_own O2.out rfl).reads HHU.out (by omega)).mono ?_
  rintro e w3 ⟨rfl, rfl⟩
  obtain ⟨d0, d1⟩ := digest_range HZ
  generalize hD : digest HZ = D at *
  clear hD
  go_wp2_with fail
  go_loopw [4, 5, 21] (fun v d i wr => ∃ j : Nat, j ≤ 4 ∧ i = .int .i64 j ∧ d = .int .u32 (D * 256 ^ j % 4294967296) ∧ wr.ownsRow (w.heap.size + 1) 5 1 v (HZ.length + j) ((HZ ++ (tailZ D).take j).map (Value.int .u8)) ∧ Box wr w.heap.size (.int .i64 0) (.slice none 0 0) ∧ w.heap.size + 1 ≤ wr.heap.size ∧ Below w.heap.size w wr) (fun _ _ i _ => 4 - (intOf i).toNat)
  case atStart => exact ⟨0, by omega, rfl, by congr 1; simp; try omega, by simpa using O2.out, X2.out, n2, B2.out⟩
  case round =>
    obtain ⟨j, hj, rfl, rfl, hown, hbox, hsz, hbel⟩ := hrel
    by_cases hlt : j < 4
    · have hm1 : HZ.length + j + 1 ≤ maxLen := by unfold maxLen; omega
      have hm2 : (HZ.length + j + 1) * 1 ≤ 140737488355328 := by omega
      have HT := hide (tail_at d0 d1 hlt)
      have HS : Hid (∃ x', D * 256 ^ j % 4294967296 = x' ∧ 0 ≤ x' ∧ x' < 4294967296) := hide ⟨_, rfl, by omega, by omega⟩
      have HO := hide hown
      have HBj := hide hbel
      have HX := hide hbox
      have HN : Hid (D * 256 ^ (j + 1) % 4294967296 = D * 256 ^ j % 4294967296 * 256 % 4294967296) := hide (by rw [Int.pow_succ, ← Int.mul_assoc]; generalize D * 256 ^ j = y; omega)
      clear hown hbel hbox
      obtain ⟨x, hx, x0, x1⟩ := HS.out
      rw [hx] at HT HN
      rw [hx]
      clear hx HS
      have hq : 0 ≤ x / 16777216 ∧ x / 16777216 ≤ 255 := by omega
      go_wp2_with (first | (at_builtin; refine wpList_append_one rfl (.tmp 23) (.tmp 27) 22 rfl (w.heap.size + 1) 5 i0 (.int .u8 0) 1 1 Try.underlying22 hi0 hz0 hz1 hz2 rfl (by decide) _ _ _ rfl HO.out rfl rfl (by intro u hu; simp at hu; subst hu; rfl) hm1 hm2 hsz ?_; intro v' w' ho' hk'; have O3 := hide ho'; have K3 := hide hk'; clear ho' hk') | fail)
      go_roundw
      case rel => exact ⟨j + 1, by omega, by go_num, by rw [HN.out], by rw [HT.out, ← List.append_assoc, List.map_append]; exact O3.out, HX.out.kept K3.out (fun hS => by have := (HO.out.lt _ hS).1; omega), Nat.le_trans hsz K3.out.size, HBj.out.trans (K3.out.below HBj.out.size (fun k hk hS => by have := (HO.out.lt _ hS).1; omega))⟩
      case measure => simp [intOf]; omega
    · have hje : j = 4 := by omega
      subst hje
      obtain ⟨av, cv, rfl⟩ := ownsRow_shape hown
      obtain ⟨⟨q0, q1⟩, q2, q3⟩ := hbox
      have HO := hide hown
      have HBj := hide hbel
      clear hown hbel
      go_wp2
      have hPZ : PZ = HZ ++ tailZ D := HPZ.out
      have hpl : PZ.length = HZ.length + 4 := by rw [hPZ]; simp [tailZ]
      have O4 : wr.ownsRow (w.heap.size + 1) 5 1 (.slice av (HZ.length + 4) cv) (HZ.length + 4) (PZ.map (Value.int .u8)) := by rw [hPZ]; exact HO.out
      refine bodyPost_ret (v := .agg #[.int .i64 0, .slice av (HZ.length + 4) cv]) (by simp [results, Try.results17, go_sem, q0, q1]) rfl ⟨av, cv, by rw [hpl], ?_, (HBj.out.setCell (Nat.le_refl _) _).setCell (Nat.le_refl _) _⟩
      have O5 := ownsRow_mono (base' := w.heap.size) (ownsRow_kept (S := fun b => b = w.heap.size) O4 (Kept.two wr w.heap.size 0 1 (.int .i64 0) (.slice av (HZ.length + 4) cv)) (fun b hb e => by have := (O4.lt b hb).1; omega)) (by omega)
      rw [← hpl] at O5 ⊢
      exact GB.mk O5 rfl

set_option maxHeartbeats 400000 in
theorem implPackLine_bad (s : ByteArray) (w : World) (hs : s.size ≤ 1048576) (h0 : lineF s.data.toList ≠ 0) :
    Calls Try.prog 17 #[.string s] w fun e w' => ∃ a c, e = .returned (.agg #[.int .i64 (lineF s.data.toList), .slice a ([] : List Int).length c]) ∧ GB w.heap.size w'.heap.size w' (.slice a ([] : List Int).length c) [] ∧ Below w.heap.size w w' := by
  have HLF := hide fun w : World => implLineFault_any s w (by omega)
  generalize lineF s.data.toList = F at *
  have hb : (F == 0) = false := beq_eq_false_iff_ne.2 h0
  go_enter Try.func17, Try.ntmps17
  go_wp2_with fail
  refine (HLF.out _).mono ?_
  rintro e w1 ⟨rfl, rfl⟩
  go_wp2_with fail
  exact bodyPost_ret (v := .agg #[.int .i64 F, .slice none 0 0]) (by simp [results, Try.results17, go_sem]) rfl ⟨none, 0, rfl, GB.mk (n := 0) (World.ownsRow_nil _ _ _ _) rfl, by first | exact below_alloc _ _ | exact (Below.refl _ _).alloc (Nat.le_refl _) _ | exact ((below_alloc _ _).setCell (Nat.le_refl _) _).setCell (Nat.le_refl _) _⟩

theorem conv_cells (w : World) (s : ByteArray) (C : Nat) (e : TypeId) (fz : Nat × Nat) (g : Nat) (hg : g = w.heap.size) : ∀ j u, (Lib.strCells s)[j]? = some u → (w.drew.alloc (.cells (bytesRow s C) e fz)).cell? ((⟨g, 0, none⟩ : Addr).add j) = some u := by
  intro j u hu
  subst hg
  have e1 : (bytesRow s C).toList = Lib.strCells s ++ List.replicate (C - s.size) (.int .u8 0) := by simp [bytesRow, Lib.strCells]
  rw [addr_add, Nat.zero_add, cell_of_row _ w.heap.size j _ e fz (heap_alloc_new w.drew _), ← Array.getElem?_toList, e1, List.getElem?_append_left (List.getElem?_eq_some_iff.1 hu).1]
  exact hu

set_option maxHeartbeats 1600000 in
theorem l14Pack_any (s : ByteArray) (w : World) (h1 : 1 ≤ s.size) (h2 : s.size ≤ 60) :
    Calls Try.prog 57 #[.string s] w fun e w' => ∃ a c, e = .returned (.slice a (packZ s.data.toList).length c) ∧ GB w.heap.size w'.heap.size w' (.slice a (packZ s.data.toList).length c) (packZ s.data.toList) ∧ Below w.heap.size w w' := by
  obtain ⟨i0, hi0, hz0, hz1, hz2⟩ := info_parts Try.infoU8
  have HHL := hide (headZ_len s.data.toList)
  have HHU := hide (headZ_u8 (l := s.data.toList) (by rw [line_len]; omega))
  have HPZ := hide (show packZ s.data.toList = headZ s.data.toList ++ tailZ (digest (headZ s.data.toList)) from rfl)
  have HHC := hide (head_cells s)
  have hll := line_len s
  generalize hP : packZ s.data.toList = PZ at *
  generalize hH : headZ s.data.toList = HZ at *
  have HH1 : Hid (HZ.length = s.size + 1) := hide (by rw [HHL.out, hll])
  have hle : HZ.length ≤ 61 := by rw [HH1.out]; omega
  clear hP hH hll HHL
  have hcv := run_bytes_of_string (P := Try.prog) (w.alloc (.cells #[.int .u8 s.size] 5)) 9 22 5 s Try.underlying9 Try.underlying22 Try.underlying5
  generalize grownCap (w.alloc (.cells #[.int .u8 s.size] 5)) s.size 0 5 = C at *
  have OO : (w.alloc (.cells #[.int .u8 s.size] 5)).drew.alloc (.cells (bytesRow s C) 5 ((bytesRow s C).size, (bytesRow s C).size + 1)) = ((w.alloc (.cells #[.int .u8 s.size] 5)).alloc (.cells (bytesRow s C) 5 ((bytesRow s C).size, (bytesRow s C).size + 1))).drew := rfl
  have HCC := hide (conv_cells (w.alloc (.cells #[.int .u8 s.size] 5)) s C 5 ((bytesRow s C).size, (bytesRow s C).size + 1) (w.heap.size + 1) (by simp))
  have B1 := hide (show Below (w.alloc (.cells #[.int .u8 s.size] 5)).heap.size (w.alloc (.cells #[.int .u8 s.size] 5)) ((w.alloc (.cells #[.int .u8 s.size] 5)).alloc (.cells (bytesRow s C) 5 ((bytesRow s C).size, (bytesRow s C).size + 1))).drew from (below_alloc _ _).drew)
  have O1 := hide (ownsRow_below (made_one w (.int .u8 s.size) 5 w.heap.size w.heap.size (Nat.le_refl _) rfl) B1.out)
  have B2 := hide (below_next (below_alloc w _) B1.out)
  have n1 : w.heap.size ≤ ((w.alloc (.cells #[.int .u8 s.size] 5)).alloc (.cells (bytesRow s C) 5 ((bytesRow s C).size, (bytesRow s C).size + 1))).drew.heap.size := B2.out.size
  have N1 := hide n1
  rw [OO] at HCC
  clear OO B1 n1
  go_enter Try.func57, Try.ntmps57
  go_wp2_with (first | (at_builtin; refine wpList_app rfl (.tmp 8) (.tmp 10) 22 rfl w.heap.size 5 i0 (.int .u8 0) 1 1 Try.underlying22 hi0 hz0 hz1 hz2 rfl (by decide) _ 1 _ rfl O1.out ⟨w.heap.size + 1, 0, none⟩ s.size C (Lib.strCells s) rfl (by rw [Lib.strCells_length]; omega) HCC.out (Lib.strCells_oneCell s) HZ.length (by rw [HH1.out]; omega) (by unfold maxLen; omega) (by omega) N1.out ?_; intro av cv w2 ho2 hk2; have O2 : Hid (w2.ownsRow w.heap.size 5 1 (.slice av HZ.length cv) HZ.length (HZ.map (Value.int .u8))) := hide (by rw [← HHC.out]; exact ho2); have K2 := hide (show Kept (fun b => some w.heap.size = some b) _ w2 from hk2); clear ho2 hk2) | fail)
  have B3 := hide (B2.out.trans (K2.out.below N1.out (fun k hk e => by simp at e; omega)))
  have n2 := Nat.le_trans N1.out K2.out.size
  clear K2 B2 O1 HCC N1
  refine (specDigestOf_any av cv HZ w2 (ownsRow_own O2.out rfl).reads HHU.out (by omega)).mono ?_
  rintro e w3 ⟨rfl, rfl⟩
  obtain ⟨d0, d1⟩ := digest_range HZ
  generalize hD : digest HZ = D at *
  clear hD hcv
  have hm1 : HZ.length + 4 ≤ maxLen := by unfold maxLen; omega
  have hm2 : (HZ.length + 4) * 1 ≤ 140737488355328 := by omega
  have n3 : w.heap.size ≤ (w3.alloc (.cells #[.int .u8 (D / 16777216 % 256), .int .u8 (D / 65536 % 256), .int .u8 (D / 256 % 256), .int .u8 (D % 256)] 5)).heap.size := by simp; omega
  have hpl : PZ.length = HZ.length + 4 := by rw [HPZ.out]; simp [tailZ]
  have HPL := hide hpl
  clear hpl
  have HQ := hide (show D / 16777216 % 256 = D / 16777216 by omega)
  go_wp2_with (first | (at_builtin; refine wpList_app rfl (.tmp 14) (.tmp 26) 22 rfl w.heap.size 5 i0 (.int .u8 0) 1 1 Try.underlying22 hi0 hz0 hz1 hz2 rfl (by decide) _ HZ.length _ rfl (ownsRow_below O2.out (below_alloc _ _)) ⟨w3.heap.size, 0, none⟩ 4 4 ((tailZ D).map (Value.int .u8)) rfl rfl (by intro j u hu; rw [addr_add, Nat.zero_add, cell_of_row _ w3.heap.size j _ _ (0, 0) (heap_alloc_new w3 _)]; rw [← hu]; simp [tailZ, HQ.out]) (by intro u hu; simp [tailZ] at hu; rcases hu with rfl | rfl | rfl | rfl <;> rfl) PZ.length HPL.out.symm hm1 hm2 (by simp; omega) ?_; intro av' cv' w4 ho4 hk4; have O4 : Hid (w4.ownsRow w.heap.size 5 1 (.slice av' PZ.length cv') PZ.length (PZ.map (Value.int .u8))) := hide (by rw [HPZ.out, List.map_append]; rw [HPZ.out] at ho4; exact ho4); have K4 := hide (show Kept (fun b => (Value.slice av HZ.length cv).ownBlock = some b) _ w4 from hk4); clear ho4 hk4) | fail)
  go_ret
  exact ⟨av', cv', rfl, GB.mk O4.out rfl, Kept.below_own (below_next B3.out ((below_alloc w3 _).mono (Nat.le_refl _))) (by simp; omega) (ownsRow_below O2.out (below_alloc _ _)) K4.out⟩
end Go.Proofs.Ytpikgmbjgfdcfaa

namespace Go.Proofs.Ytpikgmbjgfdcfaa
open Go.RowKit
set_option linter.unusedVariables false

def bys (zs : List Int) : List UInt8 := zs.map fun z => UInt8.ofNat z.toNat
def strB (l : List UInt8) : ByteArray := ⟨l.toArray⟩
theorem nums_bys (zs : List Int) : strOfNums zs = strB (bys zs) := rfl
theorem strB_list (l : List UInt8) : (strB l).data.toList = l := by simp [strB]
theorem strB_size (l : List UInt8) : (strB l).size = l.length := by simp [strB, ByteArray.size]
theorem bys_len (zs : List Int) : (bys zs).length = zs.length := by simp [bys]
theorem nums_of {l : List UInt8} : bys (l.map fun b => (b.toNat : Int)) = l := by
  unfold bys
  rw [List.map_map]
  conv => rhs; rw [← List.map_id l]
  apply List.map_congr_left
  intro b _
  simp
theorem of_nums {zs : List Int} (h : U8 zs) : (bys zs).map (fun b => (b.toNat : Int)) = zs := by
  unfold bys
  rw [List.map_map]
  conv => rhs; rw [← List.map_id zs]
  apply List.map_congr_left
  intro z hz
  have := h z hz
  simp only [Function.comp, id]
  have e : (UInt8.ofNat z.toNat).toNat = z.toNat := by rw [UInt8.toNat_ofNat']; omega
  rw [e]; omega
theorem nums_inj {xs ys : List Int} (hx : U8 xs) (hy : U8 ys) (h : strOfNums xs = strOfNums ys) : xs = ys := by
  have : bys xs = bys ys := by have := congrArg (fun s : ByteArray => s.data.toList) h; simpa [nums_bys, strB] using this
  rw [← of_nums hx, ← of_nums hy, this]
theorem u8_take {zs : List Int} (h : U8 zs) (k : Nat) : U8 (zs.take k) := fun z hz => h z (List.mem_of_mem_take hz)
theorem u8_drop {zs : List Int} (h : U8 zs) (k : Nat) : U8 (zs.drop k) := fun z hz => h z (List.mem_of_mem_drop hz)
theorem u8_app {xs ys : List Int} (h1 : U8 xs) (h2 : U8 ys) : U8 (xs ++ ys) := fun z hz => by rcases List.mem_append.1 hz with h | h; exact h1 z h; exact h2 z h

def lnOf (zs : List Int) : List UInt8 := bys ((zs.drop 1).take (zs.getD 0 0).toNat)
def one (zs : List Int) : Option (List UInt8) := if lineF (lnOf zs) = 0 ∧ packZ (lnOf zs) = zs.take ((lnOf zs).length + 5) then some (lnOf zs) else none
theorem lineF_len {l : List UInt8} (h : lineF l = 0) : 1 ≤ l.length ∧ l.length ≤ 60 := by
  unfold lineF at h; split at h <;> simp_all
theorem lnOf_pack (l : List UInt8) (r : List Int) : lnOf (packZ l ++ r) = l := by
  unfold lnOf packZ headZ
  simp only [List.cons_append, List.drop_succ_cons, List.drop_zero, List.getD_cons_zero, Int.toNat_natCast, List.append_assoc]
  rw [List.take_append_of_le_length (by simp), List.take_of_length_le (by simp)]
  exact nums_of
theorem one_pack {l : List UInt8} (h : lineF l = 0) (r : List Int) : one (packZ l ++ r) = some l := by
  unfold one
  rw [lnOf_pack]
  refine if_pos ⟨h, ?_⟩
  rw [List.take_append_of_le_length (by rw [packZ_len]; exact Nat.le_refl _), List.take_of_length_le (by rw [packZ_len]; exact Nat.le_refl _)]
theorem one_some {zs : List Int} {l : List UInt8} (h : one zs = some l) : lineF l = 0 ∧ l = lnOf zs ∧ l.length + 5 ≤ zs.length ∧ zs = packZ l ++ zs.drop (l.length + 5) := by
  unfold one at h
  split at h
  · rename_i hh
    obtain ⟨h1, h2⟩ := hh
    have e : lnOf zs = l := Option.some.inj h
    rw [e] at h1 h2
    refine ⟨h1, e.symm, ?_, ?_⟩
    · have := congrArg List.length h2; rw [packZ_len, List.length_take] at this; omega
    · rw [h2, List.take_append_drop]
  · simp at h
def linesN : Nat → List Int → List (List UInt8)
  | 0, _ => []
  | n + 1, zs => match one zs with
    | none => []
    | some l => l :: linesN n (zs.drop (l.length + 5))
theorem linesN_more : ∀ (n : Nat) (zs : List Int) (m : Nat), zs.length ≤ n → zs.length ≤ m → linesN n zs = linesN m zs
  | 0, zs, m, h, h2 => by
    have : zs = [] := List.eq_nil_of_length_eq_zero (by omega)
    subst this
    cases m with
    | zero => rfl
    | succ m => simp [linesN, one, lnOf, bys, lineF]
  | n + 1, zs, m, h, h2 => by
    cases m with
    | zero =>
      have : zs = [] := List.eq_nil_of_length_eq_zero (by omega)
      subst this
      simp [linesN, one, lnOf, bys, lineF]
    | succ m =>
      unfold linesN
      cases hO : one zs with
      | none => rfl
      | some l =>
        obtain ⟨h3, -, h4, -⟩ := one_some hO
        have := lineF_len h3
        simp only []
        rw [linesN_more n _ m (by rw [List.length_drop]; omega) (by rw [List.length_drop]; omega)]
def lines (zs : List Int) : List (List UInt8) := linesN zs.length zs
theorem lines_none {zs : List Int} (h : one zs = none) : lines zs = [] := by
  unfold lines
  cases zs with
  | nil => rfl
  | cons z t => simp [linesN, h]
theorem lines_some {zs : List Int} {l : List UInt8} (h : one zs = some l) : lines zs = l :: lines (zs.drop (l.length + 5)) := by
  obtain ⟨h3, -, h4, -⟩ := one_some h
  have := lineF_len h3
  obtain ⟨n, hn⟩ : ∃ n, zs.length = n + 1 := ⟨zs.length - 1, by omega⟩
  have e1 : lines zs = l :: linesN n (zs.drop (l.length + 5)) := by show linesN zs.length zs = _; rw [hn]; simp [linesN, h]
  rw [e1]
  exact congrArg (l :: ·) (linesN_more n _ (zs.drop (l.length + 5)).length (by rw [List.length_drop]; omega) (Nat.le_refl _))
theorem lines_nil : lines [] = [] := rfl
theorem lines_pack {l : List UInt8} (h : lineF l = 0) (r : List Int) : lines (packZ l ++ r) = l :: lines r := by
  rw [lines_some (one_pack h r), List.drop_append_of_le_length (by rw [packZ_len]; exact Nat.le_refl _), List.drop_of_length_le (by rw [packZ_len]; exact Nat.le_refl _), List.nil_append]
def endL (ls : List (List UInt8)) : Nat := (ls.map fun l => l.length + 5).sum
theorem endL_cons (l : List UInt8) (ls : List (List UInt8)) : endL (l :: ls) = l.length + 5 + endL ls := by simp [endL]
theorem endL_app (a b : List (List UInt8)) : endL (a ++ b) = endL a + endL b := by simp [endL]
def flatL (ls : List (List UInt8)) : List Int := ls.flatMap packZ
theorem flatL_len (ls : List (List UInt8)) : (flatL ls).length = endL ls := by
  induction ls with
  | nil => rfl
  | cons l t ih => rw [endL_cons, ← ih]; simp [flatL, packZ_len]
def GoodL (ls : List (List UInt8)) : Prop := ∀ l ∈ ls, lineF l = 0
theorem lines_flat {ls : List (List UInt8)} (h : GoodL ls) (r : List Int) : lines (flatL ls ++ r) = ls ++ lines r := by
  induction ls with
  | nil => rfl
  | cons l t ih =>
    rw [show flatL (l :: t) = packZ l ++ flatL t from rfl, List.append_assoc, lines_pack (h l (by simp)), ih (fun x hx => h x (by simp [hx])), List.cons_append]
theorem lines_good : ∀ (n : Nat) (zs : List Int), zs.length ≤ n → GoodL (lines zs) ∧ ∃ r, zs = flatL (lines zs) ++ r ∧ one r = none
  | n, zs, hn => by
    cases hO : one zs with
    | none => rw [lines_none hO]; exact ⟨fun l hl => by simp at hl, zs, rfl, hO⟩
    | some l =>
      obtain ⟨h3, -, h4, h5⟩ := one_some hO
      have := lineF_len h3
      rw [lines_some hO]
      cases n with
      | zero => omega
      | succ n =>
        obtain ⟨g, r, hr, h0⟩ := lines_good n (zs.drop (l.length + 5)) (by rw [List.length_drop]; omega)
        refine ⟨fun x hx => ?_, r, ?_, h0⟩
        · rcases List.mem_cons.1 hx with rfl | hx
          · exact h3
          · exact g x hx
        · rw [show flatL (l :: lines (zs.drop (l.length + 5))) = packZ l ++ flatL (lines (zs.drop (l.length + 5))) from rfl, List.append_assoc, ← hr]; exact h5
theorem end_le (zs : List Int) : endL (lines zs) ≤ zs.length := by
  obtain ⟨-, r, hr, -⟩ := lines_good _ zs (Nat.le_refl _)
  have := congrArg List.length hr
  rw [List.length_append, flatL_len] at this; omega
theorem take_end (zs : List Int) : zs.take (endL (lines zs)) = flatL (lines zs) := by
  obtain ⟨-, r, hr, -⟩ := lines_good _ zs (Nat.le_refl _)
  generalize lines zs = ls at hr ⊢
  rw [← flatL_len, hr, List.take_append_of_le_length (Nat.le_refl _), List.take_of_length_le (Nat.le_refl _)]
def Whole (zs : List Int) : Prop := endL (lines zs) = zs.length
theorem whole_iff {zs : List Int} (h : Whole zs) : zs = flatL (lines zs) ∧ GoodL (lines zs) := by
  have := take_end zs
  rw [h, List.take_of_length_le (Nat.le_refl _)] at this
  exact ⟨this, (lines_good _ zs (Nat.le_refl _)).1⟩
theorem lines_app {a : List Int} (h : Whole a) (b : List Int) : lines (a ++ b) = lines a ++ lines b := by
  obtain ⟨h1, h2⟩ := whole_iff h
  conv => lhs; rw [h1]
  rw [lines_flat h2]
theorem lines_of_flat {ls : List (List UInt8)} (h : GoodL ls) : lines (flatL ls) = ls := by
  have := lines_flat h []
  simpa [lines_nil] using this
theorem flat_whole {ls : List (List UInt8)} (h : GoodL ls) : Whole (flatL ls) := by
  unfold Whole; rw [lines_of_flat h, flatL_len]
theorem lines_count (zs : List Int) : 6 * (lines zs).length ≤ zs.length := by
  refine Nat.le_trans ?_ (end_le zs)
  have g := (lines_good _ zs (Nat.le_refl _)).1
  generalize lines zs = ls at g
  induction ls with
  | nil => simp [endL]
  | cons l t ih =>
    have := lineF_len (g l (by simp))
    have := ih (fun x hx => g x (by simp [hx]))
    rw [endL_cons, List.length_cons]; omega
end Go.Proofs.Ytpikgmbjgfdcfaa

