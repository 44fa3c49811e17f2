/-
  Texts put together: Mem Flat Bytes Chunks ChunksRd Digest Fault FaultC Store.
-/
import Derived.Test.YtejfcapocikjmaaGreatDoorRows
import Derived.WalkKit
import Derived.WalkSpells
import Derived.WalkLawsBesides
import Derived.Deep.OwnRows
import Derived.BigQuiet
import Derived.Deep.QuietTactic
import Derived.Carry
import Derived.Maps.OwnSet
namespace Go.Proofs.YtejfcapocikjmaaGreatDoor
open Go.RowKit
set_option linter.unusedVariables false

theorem hide {p : Prop} (h : p) : Hid p := h

theorem ret_bool {a b : Bool} (h : a = b) : Ending.returned (.bool a) = .returned (.bool b) := by rw [h]
theorem ret_int {k : IntKind} {a b : Int} (h : a = b) : Ending.returned (.int k a) = .returned (.int k b) := by rw [h]

def Reads (k : IntKind) (w : World) (a : Option Addr) (zs : List Int) : Prop :=
  zs ≠ [] → ∃ b off, a = some ⟨b, off, none⟩ ∧ b < w.heap.size ∧ ∀ i, i < zs.length → w.cell? ⟨b, off + i, none⟩ = some (.int k (zs.getD i 0))

structure Kept (S : Nat → Prop) (w w' : World) : Prop where
  os : w'.os = w.os
  tape : w'.tape = w.tape
  output : w'.output = w.output
  size : w.heap.size ≤ w'.heap.size
  block : ∀ k, k < w.heap.size → ¬ S k → w'.heap[k]? = w.heap[k]?

namespace Kept
variable {S T : Nat → Prop} {w w' w'' : World}
theorem refl (S : Nat → Prop) (w : World) : Kept S w w := ⟨rfl, rfl, rfl, Nat.le_refl _, fun _ _ _ => rfl⟩
theorem trans (h : Kept S w w') (k : Kept S w' w'') : Kept S w w'' :=
  ⟨k.os.trans h.os, k.tape.trans h.tape, k.output.trans h.output, Nat.le_trans h.size k.size, fun i hi hn => (k.block i (Nat.lt_of_lt_of_le hi h.size) hn).trans (h.block i hi hn)⟩
theorem mono (h : Kept S w w') (hs : ∀ k, k < w.heap.size → S k → T k) : Kept T w w' := ⟨h.os, h.tape, h.output, h.size, fun k hk hn => h.block k hk (fun hS => hn (hs k hk hS))⟩
theorem drew (h : Kept S w w') : Kept S w w'.drew := ⟨h.os, h.tape, h.output, h.size, h.block⟩
theorem drewN (h : Kept S w w') : ∀ n, Kept S w (w'.drewN n)
  | 0 => h
  | n + 1 => (drewN h n).drew
theorem alloc (h : Kept S w w') (o : Obj) : Kept S w (w'.alloc o) :=
  ⟨h.os, h.tape, h.output, Nat.le_trans h.size (by simp), fun k hk hn => (Below.heap_alloc _ _ _ (Nat.lt_of_lt_of_le hk h.size)).trans (h.block k hk hn)⟩
theorem setCell (h : Kept S w w') {p : Addr} (hp : p.block < w.heap.size → S p.block) (u : Value) : Kept S w (w'.setCell p u) :=
  ⟨h.os, h.tape, h.output, Nat.le_trans h.size (by simp [World.setCell]), fun k hk hn => (Below.heap_setCell _ _ _ _ (fun e => by subst e; exact hn (hp hk))).trans (h.block k hk hn)⟩
theorem cell (h : Kept S w w') {p : Addr} (hp : p.block < w.heap.size) (hn : ¬ S p.block) : w'.cell? p = w.cell? p := World.cell?_of_block (w := w) (h.block _ hp hn)
theorem frozen (h : Kept S w w') {p : Addr} (hp : p.block < w.heap.size) (hn : ¬ S p.block) : w'.frozen? p = w.frozen? p := World.frozen?_of_block (w := w) (h.block _ hp hn)
theorem below (h : Kept S w w') {B : Nat} (hB : B ≤ w.heap.size) (hS : ∀ k, k < B → ¬ S k) : Below B w w' := ⟨h.os, h.tape, h.output, h.size, fun k hk => h.block k (by omega) (hS k hk)⟩
theorem trans_own (h : Kept S w w') (k : Kept T w' w'') (hn : ∀ b, b < w.heap.size → ¬ T b) : Kept S w w'' :=
  ⟨k.os.trans h.os, k.tape.trans h.tape, k.output.trans h.output, Nat.le_trans h.size k.size, fun i hi hs => (k.block i (Nat.lt_of_lt_of_le hi h.size) (hn i hi)).trans (h.block i hi hs)⟩
theorem of_below (h : Below w.heap.size w w') : Kept S w w' := ⟨h.os, h.tape, h.output, h.size, fun k hk _ => h.block k hk⟩
end Kept

theorem Kept.two (w : World) (b i j : Nat) (u v : Value) : Kept (fun x => x = b) w ((w.setCell ⟨b, i, none⟩ u).setCell ⟨b, j, none⟩ v) :=
  Kept.setCell (S := fun x => x = b) (p := ⟨b, j, none⟩) (Kept.setCell (S := fun x => x = b) (p := ⟨b, i, none⟩) (Kept.refl _ w) (fun _ => rfl) u) (fun _ => rfl) v

def Two (w : World) (b : Nat) (u v : Value) : Prop := w.cell? ⟨b, 0, none⟩ = some u ∧ w.cell? ⟨b, 1, none⟩ = some v
theorem Two.lt {w : World} {b : Nat} {u v : Value} (h : Two w b u v) : b < w.heap.size := World.block_lt_of_cell? w ⟨b, 0, none⟩ h.1
theorem Two.kept {S : Nat → Prop} {w w' : World} {b : Nat} {u v : Value} (h : Two w b u v) (hk : Kept S w w') (hn : ¬ S b) : Two w' b u v :=
  ⟨(hk.cell (p := ⟨b, 0, none⟩) h.lt hn).trans h.1, (hk.cell (p := ⟨b, 1, none⟩) h.lt hn).trans h.2⟩
theorem Two.below {w w' : World} {b : Nat} {u v : Value} (h : Two w b u v) (hk : Below w.heap.size w w') : Two w' b u v :=
  h.kept (S := fun _ => False) (Kept.of_below hk) id
theorem Two.new (w : World) (u v : Value) (t : TypeId) : Two (w.alloc (.cells #[u, v] t)) w.heap.size u v := ⟨by simp, by simp⟩
def Box (w : World) (b : Nat) (u v : Value) : Prop := Two w b u v ∧ w.frozen? ⟨b, 0, none⟩ = false ∧ w.frozen? ⟨b, 1, none⟩ = false
theorem Box.kept {S : Nat → Prop} {w w' : World} {b : Nat} {u v : Value} (h : Box w b u v) (hk : Kept S w w') (hn : ¬ S b) : Box w' b u v :=
  ⟨h.1.kept hk hn, (hk.frozen (p := ⟨b, 0, none⟩) h.1.lt hn).trans h.2.1, (hk.frozen (p := ⟨b, 1, none⟩) h.1.lt hn).trans h.2.2⟩
theorem Box.below {w w' : World} {b : Nat} {u v : Value} (h : Box w b u v) (hk : Below w.heap.size w w') : Box w' b u v :=
  h.kept (S := fun _ => False) (Kept.of_below hk) id
theorem Box.new (w : World) (u v : Value) (t : TypeId) : Box (w.alloc (.cells #[u, v] t)) w.heap.size u v := ⟨Two.new w u v t, by simp, by simp⟩
theorem below_alloc (w : World) (o : Obj) : Below w.heap.size w (w.alloc o) := (Below.refl _ _).alloc (Nat.le_refl _) _
theorem below_next {w w' w'' : World} (h : Below w.heap.size w w') (k : Below w'.heap.size w' w'') : Below w.heap.size w w'' := h.trans (k.mono h.size)

theorem Reads.kept {k : IntKind} {S : Nat → Prop} {w w' : World} {a : Option Addr} {zs : List Int} (h : Reads k w a zs) (hk : Kept S w w') (hn : zs ≠ [] → ∀ x, a = some x → ¬ S x.block) : Reads k w' a zs := by
  intro hz
  obtain ⟨b, off, rfl, hb, hc⟩ := h hz
  exact ⟨b, off, rfl, Nat.lt_of_lt_of_le hb hk.size, fun i hi => (hk.cell (p := ⟨b, off + i, none⟩) hb (hn hz ⟨b, off, none⟩ rfl)).trans (hc i hi)⟩

theorem Reads.below {k : IntKind} {w w' : World} {a : Option Addr} {zs : List Int} (h : Reads k w a zs) (hk : Below w.heap.size w w') : Reads k w' a zs :=
  h.kept (S := fun _ => False) (Kept.of_below hk) (fun _ _ _ => id)

def U8 (zs : List Int) : Prop := ∀ z ∈ zs, 0 ≤ z ∧ z ≤ 255
theorem U8.get {zs : List Int} (h : U8 zs) (i : Nat) : 0 ≤ zs.getD i 0 ∧ zs.getD i 0 ≤ 255 := by
  by_cases hi : i < zs.length
  · have e : zs.getD i 0 = zs[i] := by simp [List.getD_eq_getElem?_getD, hi]
    rw [e]; exact h _ (List.getElem_mem hi)
  · have e : zs.getD i 0 = 0 := by simp [List.getD_eq_getElem?_getD, List.getElem?_eq_none (Nat.le_of_not_lt hi)]
    rw [e]; omega

theorem reads_of_row {W : World} {x : Addr} {l c : Nat} {zs : List Int} (hz : zs.length = c) (hl : l ≤ c) (hm : c ≤ maxLen) (hcell : ∀ i, i < zs.length → W.cell? (x.add i) = some (.int .u8 (zs.getD i 0))) (hwz : ∀ n ∈ zs, (Lit.int .u8 n).wf = true) :
    ∃ ys : List Int, ys.length = l ∧ Reads .u8 W (some x) ys ∧ U8 ys ∧ ys.length ≤ maxLen := by
  have hlen : (zs.take l).length = l := by simp; omega
  refine ⟨zs.take l, hlen, ?_, ?_, by omega⟩
  · intro hne
    have h0 : 0 < l := by
      rcases Nat.eq_zero_or_pos l with h | h
      · subst h; exact absurd rfl hne
      · exact h
    obtain ⟨b, off, spot⟩ := x
    have hc := hcell 0 (by omega)
    have hspot : spot = none := by simpa [Addr.add] using World.cell?_spot hc
    subst hspot
    refine ⟨b, off, rfl, World.block_lt_of_cell? W _ (by simpa [Addr.add] using hc), fun i hi => ?_⟩
    have := hcell i (by omega)
    have e : (zs.take l).getD i 0 = zs.getD i 0 := by
      have h2 : i < l := by omega
      simp [List.getD_eq_getElem?_getD, h2]
    rw [e]
    have ea : (⟨b, off, none⟩ : Addr).add i = ⟨b, off + i, none⟩ := by unfold Addr.add; split <;> simp_all
    rw [ea] at this
    exact this
  · intro z hz'
    have := hwz z (List.mem_of_mem_take hz')
    simp [Lit.wf, IntKind.min, IntKind.max, IntKind.signed, IntKind.bits] at this
    omega

theorem cell_set_same {w : World} {a : Addr} {v u : Value} (h : w.cell? a = some u) : (w.setCell a v).cell? a = some v :=
  World.cell?_setCell_same' w a v (by rw [h]; rfl)
theorem cell_set_other {w : World} {a b : Addr} {v : Value} (h : a ≠ b) : (w.setCell a v).cell? b = w.cell? b := by
  apply World.cell?_setCell_other; exact h
theorem cell_set_far {w : World} {b o b' o' : Nat} {v u : Value} (h : b ≠ b') (hc : w.cell? ⟨b', o', none⟩ = some u) : (w.setCell ⟨b, o, none⟩ v).cell? ⟨b', o', none⟩ = some u :=
  (World.cell?_of_block (a := ⟨b', o', none⟩) (w := w) (Below.heap_setCell w ⟨b, o, none⟩ v b' (fun e => h e.symm))).trans hc

theorem wpList_append_one {P : Program} {wr : World} {news : Array Value} {ops : Array Oper} {rest : List Oper} {o : Oper} {a : Act} {Q : Exit → Act → World → Prop} (hgd : o.guard = none) (s x : Operand) (t : TypeId)
    (ho : o.op = .call { callee := .builtin .append, args := #[s, x], argTypes := #[t, t] })
    (base : Nat) (e : TypeId) (i : TypeInfo) (z : Value) (size bytes : Nat) (ht : P.underlying t = some (.slice e)) (hi : P.info? e = some i) (hz : i.zero = some z)
    (hsize : i.size = size) (hby : i.bytes = bytes) (hzs : z.cells.size = size) (hsz : 0 < size)
    (v : Value) (n : Nat) (xs : List Value) (hs : a.eval s = v) (hown : wr.ownsRow base e size v n xs)
    (hx : a.eval x = .slice (some ⟨wr.heap.size, 0, none⟩) 1 1) (hl : news.size = size) (h1 : ∀ u ∈ news.toList, u.oneCell' = true)
    (h63 : n + 1 ≤ maxLen) (hbytes : (n + 1) * bytes ≤ 140737488355328) (hbase : base ≤ wr.heap.size)
    (h : ∀ v' w', w'.ownsRow base e size v' (n + 1) (xs ++ news.toList) → Kept (fun b => v.ownBlock = some b) wr w' → wpList P ops Q rest (a.put o.dst v') w') :
    wpList P ops Q (o :: rest) a (wr.alloc (.cells news e)) := by
  refine wpList_append_own _ hgd s x t ho base e i z size bytes ht hi hz hsize hby hzs hsz v n xs hs (hown.alloc _) ⟨wr.heap.size, 0, none⟩ 1 1 news.toList hx (by simp [hl]) ?_ h1 h63 hbytes (by simp; omega) ?_
  · intro j u hj
    have hadd : (⟨wr.heap.size, 0, none⟩ : Addr).add j = ⟨wr.heap.size, j, none⟩ := by unfold Addr.add; split <;> simp_all
    rw [hadd, cell_of_row _ wr.heap.size j news e (0, 0) (heap_alloc_new wr _)]
    simpa using hj
  · intro v' w' ho' hg _
    refine h v' w' ho' ⟨hg.os, hg.tape, hg.output, Nat.le_trans (by simp) hg.size, fun k hk hn => ?_⟩
    rw [hg.block k (by simp; omega) (fun e => hn e.symm)]
    exact Below.heap_alloc _ _ _ hk

theorem Kept.below_own {w w' wr : World} {B : Nat} {v : Value} {e : TypeId} {size n : Nat} {xs : List Value} (hb : Below B w wr) (hB : B ≤ wr.heap.size) (hown : wr.ownsRow B e size v n xs) (hk : Kept (fun b => v.ownBlock = some b) wr w') : Below B w w' :=
  hb.trans (hk.below hB (fun k hk' he => by have := (hown.lt k he).1; omega))

theorem ownsRow_ints {w : World} {base : Nat} {e : TypeId} {v : Value} {k : IntKind} {n : Nat} {zs : List Int} (h : w.ownsRow base e 1 v n (zs.map (Value.int k))) (hn : n = zs.length) (hz : 0 < n) :
    ∃ g cap, v = .slice (some ⟨g, 0, none⟩) n cap ∧ base ≤ g ∧ g < w.heap.size ∧ (∀ i, i < n → w.cell? ⟨g, i, none⟩ = some (.int k (zs.getD i 0))) ∧ ∀ i, w.frozen? ⟨g, i, none⟩ = false := by
  obtain ⟨h1, h2⟩ := h
  rcases h2 with ⟨_, h0⟩ | ⟨g, cap, cur, rfl, hg, hh, hc, hm, hs, ht⟩
  · omega
  · refine ⟨g, cap, rfl, hg, (Array.getElem?_eq_some_iff.1 hh).1, fun i hi => ?_, fun i => by simp [World.frozen?, hh]⟩
    rw [cell_of_row w g i cur e (0, 0) hh]
    have e1 : (cur.toList.take (n * 1))[i]? = (zs.map (Value.int k))[i]? := by rw [ht]
    rw [List.getElem?_take, if_pos (by omega)] at e1
    have hi2 : i < zs.length := by omega
    simp [hi2] at e1
    simpa [List.getD_eq_getElem?_getD, hi2] using e1

theorem ownsRow_kept {S : Nat → Prop} {w w' : World} {base : Nat} {e : TypeId} {size : Nat} {v : Value} {n : Nat} {xs : List Value} (h : w.ownsRow base e size v n xs) (hk : Kept S w w') (hn : ∀ b, v.ownBlock = some b → ¬ S b) : w'.ownsRow base e size v n xs := by
  refine ⟨h.1, ?_⟩
  rcases h.2 with hz | ⟨g, cap, cur, rfl, hb, hgg, rest⟩
  · exact .inl hz
  · refine .inr ⟨g, cap, cur, rfl, hb, ?_, rest⟩
    rw [hk.block g (Array.getElem?_eq_some_iff.1 hgg).1 (hn g rfl)]
    exact hgg
theorem ownsRow_below {w w' : World} {base : Nat} {e : TypeId} {size : Nat} {v : Value} {n : Nat} {xs : List Value} (h : w.ownsRow base e size v n xs) (hk : Below w.heap.size w w') : w'.ownsRow base e size v n xs :=
  ownsRow_kept (S := fun _ => False) h (Kept.of_below hk) (fun _ _ => id)
theorem ownsRow_mono {w : World} {base base' : Nat} {e : TypeId} {size : Nat} {v : Value} {n : Nat} {xs : List Value} (h : w.ownsRow base e size v n xs) (hb : base' ≤ base) : w.ownsRow base' e size v n xs := by
  refine ⟨h.1, ?_⟩
  rcases h.2 with hz | ⟨g, cap, cur, hv, hg, rest⟩
  · exact .inl hz
  · exact .inr ⟨g, cap, cur, hv, by omega, rest⟩
theorem ownsRow_shape {w : World} {base : Nat} {e : TypeId} {size : Nat} {v : Value} {n : Nat} {xs : List Value} (h : w.ownsRow base e size v n xs) : ∃ a c, v = .slice a n c := by
  rcases h.2 with ⟨rfl, rfl⟩ | ⟨g, cap, cur, rfl, _⟩
  · exact ⟨_, _, rfl⟩
  · exact ⟨_, _, rfl⟩
theorem ownsRow_apart {w : World} {b1 b2 : Nat} {e1 e2 : TypeId} {s1 s2 : Nat} {v1 v2 : Value} {n1 n2 : Nat} {x1 x2 : List Value} (h1 : w.ownsRow b1 e1 s1 v1 n1 x1) (h2 : w.ownsRow b2 e2 s2 v2 n2 x2) (he : e1 ≠ e2) {g : Nat} (hg1 : v1.ownBlock = some g) (hg2 : v2.ownBlock = some g) : False := by
  rcases h1.2 with ⟨rfl, _⟩ | ⟨g1, c1, cur1, rfl, _, hh1, _⟩
  · simp [Value.ownBlock] at hg1
  · rcases h2.2 with ⟨rfl, _⟩ | ⟨g2, c2, cur2, rfl, _, hh2, _⟩
    · simp [Value.ownBlock] at hg2
    · simp [Value.ownBlock] at hg1 hg2
      subst hg1 hg2
      rw [hh1] at hh2
      simp at hh2
      exact he hh2.2

def Own (k : IntKind) (w : World) (a : Option Addr) (zs : List Int) : Prop :=
  zs ≠ [] → ∃ b off, a = some ⟨b, off, none⟩ ∧ b < w.heap.size ∧ ∀ i, i < zs.length → w.cell? ⟨b, off + i, none⟩ = some (.int k (zs.getD i 0)) ∧ w.frozen? ⟨b, off + i, none⟩ = false
def blkOf (a : Option Addr) (b : Nat) : Prop := a.map Addr.block = some b

theorem Own.reads {k : IntKind} {w : World} {a : Option Addr} {zs : List Int} (h : Own k w a zs) : Reads k w a zs := by
  intro hz
  obtain ⟨b, off, e, hb, hc⟩ := h hz
  exact ⟨b, off, e, hb, fun i hi => (hc i hi).1⟩
def SameShape (w w' : World) : Prop := ∀ (g : Nat) (cur : Array Value) (t : TypeId), w.heap[g]? = some (.cells cur t (0, 0)) → ∃ cur' : Array Value, w'.heap[g]? = some (.cells cur' t (0, 0)) ∧ cur'.size = cur.size
theorem own_back {w w' : World} {B : Nat} {e : TypeId} {g n cap : Nat} {xs ys : List Value} (h : w.ownsRow B e 1 (.slice (some ⟨g, 0, none⟩) n cap) n xs) (hs : SameShape w w') (hy : ys.length = n) (hc : ∀ i, i < n → w'.cell? ⟨g, i, none⟩ = ys[i]?) :
    w'.ownsRow B e 1 (.slice (some ⟨g, 0, none⟩) n cap) n ys := by
  refine ⟨by omega, .inr ?_⟩
  rcases h.2 with ⟨h', _⟩ | ⟨g', cap', cur, h', hb, hh, hnc, hcm, hcs, htake⟩
  · simp at h'
  · simp only [Value.slice.injEq, Option.some.injEq, Addr.mk.injEq, and_true, true_and] at h'
    obtain ⟨rfl, rfl⟩ := h'
    obtain ⟨cur', e', s'⟩ := hs g cur e hh
    refine ⟨g, cap, cur', rfl, hb, e', hnc, hcm, by omega, ?_⟩
    apply List.ext_getElem?
    intro i
    by_cases hi : i < n
    · have := hc i hi
      rw [cell_of_row w' g i cur' e (0, 0) e'] at this
      rw [List.getElem?_take, if_pos (by omega), ← this]
      simp
    · rw [List.getElem?_take, if_neg (by omega), List.getElem?_eq_none (by omega)]

structure InW (Inv : World → Prop) where
  val : World
  ok : Inv val
theorem wp_region_inv {P : Program} {Inv : World → Prop} {id : Nat} {Q : Exit → Act → World → Prop} {a : Act} {w : World} {l : List Oper} (hm : P.follows .mixedOrders = true) (hB : Region.lexB .any l.toArray = true) (h0 : Inv w.drew)
    (h : wpQuiet P l.toArray (fun w' => ∃ u : InW Inv, w' = u.val) (fun a' => ∀ w', (∃ u : InW Inv, w' = u.val) → Q .normal a' w') l a) : (Code.region id l.toArray true).wp P Q a w :=
  wp_region_quiet (C := fun w' => ∃ u : InW Inv, w' = u.val) hm hB ⟨⟨_, h0⟩, rfl⟩ (by simpa using h)
theorem ownsRow_cap {w : World} {base : Nat} {e : TypeId} {size : Nat} {a : Option Addr} {n c : Nat} {xs : List Value} (h : w.ownsRow base e size (.slice a n c) n xs) : n ≤ c := by
  rcases h.2 with ⟨h', rfl⟩ | ⟨g, cap, cur, h', _, _, hc, _⟩
  · omega
  · simp only [Value.slice.injEq, true_and] at h'
    omega

def ahead (P : Nat → List Int) : Nat → Nat
  | 0 => 0
  | i + 1 => ahead P i + (P i).length

theorem ownsRow_own {w : World} {B : Nat} {e : TypeId} {k : IntKind} {a : Option Addr} {n c : Nat} {zs : List Int} (h : w.ownsRow B e 1 (.slice a n c) n (zs.map (Value.int k))) (hn : n = zs.length) : Own k w a zs := by
  intro hz
  have h0 : 0 < n := by rw [hn]; exact List.length_pos_iff.2 hz
  rcases h.2 with ⟨h', _⟩ | ⟨g, cap, cur, h', hb, hh, hnc, hcm, hcs, htake⟩
  · simp only [Value.slice.injEq] at h'
    omega
  · simp only [Value.slice.injEq, true_and] at h'
    obtain ⟨rfl, rfl⟩ := h'
    refine ⟨g, 0, rfl, (h.lt g rfl).2, fun i hi => ⟨?_, h.frozenAt _⟩⟩
    rw [Nat.zero_add, h.cellAt i (by omega)]
    simp [List.getD_eq_getElem?_getD, hi]

end Go.Proofs.YtejfcapocikjmaaGreatDoor

namespace Go.Proofs.YtejfcapocikjmaaGreatDoor
open Go.RowKit
set_option linter.unusedVariables false

def flat (n : Nat) (F : Nat → List Value) : List Value := (List.range n).flatMap F

theorem flat_succ (n : Nat) (F : Nat → List Value) : flat (n + 1) F = flat n F ++ F n := by
  simp [flat, List.range_succ]
theorem flat_length {k : Nat} {F : Nat → List Value} : ∀ {n : Nat}, (∀ i, i < n → (F i).length = k) → (flat n F).length = n * k
  | 0, _ => by simp [flat]
  | n + 1, h => by
    rw [flat_succ, List.length_append, flat_length (fun i hi => h i (by omega)), h n (by omega), Nat.succ_mul]
theorem flat_get {k : Nat} {F : Nat → List Value} : ∀ {n : Nat}, (∀ i, i < n → (F i).length = k) → ∀ i r, i < n → r < k → (flat n F)[i * k + r]? = (F i)[r]?
  | 0, _, i, r, hi, _ => by omega
  | n + 1, h, i, r, hi, hr => by
    have hl := flat_length (n := n) (F := F) (k := k) (fun i hi => h i (by omega))
    rw [flat_succ]
    by_cases e : i = n
    · subst e
      rw [List.getElem?_append_right (by omega), hl]
      congr 1
      omega
    · have hlt : i * k + r < n * k := by
        have : (i + 1) * k ≤ n * k := Nat.mul_le_mul_right k (by omega)
        rw [Nat.succ_mul] at this
        omega
      rw [List.getElem?_append_left (by omega)]
      exact flat_get (fun i hi => h i (by omega)) i r (by omega) hr
theorem flat_congr {F G : Nat → List Value} {n : Nat} (h : ∀ i, i < n → F i = G i) : flat n F = flat n G := by
  unfold flat
  induction n with
  | zero => rfl
  | succ n ih =>
    rw [List.range_succ, List.flatMap_append, List.flatMap_append, ih (fun i hi => h i (by omega))]
    simp [h n (by omega)]
theorem flat_set {k : Nat} {F : Nat → List Value} {n : Nat} (h : ∀ i, i < n → (F i).length = k) (i r : Nat) (hi : i < n) (hr : r < k) (u : Value) :
    (flat n F).set (i * k + r) u = flat n (fun t => if t = i then (F t).set r u else F t) := by
  have h' : ∀ t, t < n → (if t = i then (F t).set r u else F t).length = k := fun t ht => by
    by_cases e : t = i
    · rw [if_pos e, List.length_set]; exact h t ht
    · rw [if_neg e]; exact h t ht
  have l1 := flat_length h
  have l2 := flat_length h'
  apply List.ext_getElem?
  intro p
  by_cases hp : p < n * k
  · have hk : 0 < k := by omega
    have e : p = p / k * k + p % k := by rw [Nat.mul_comm]; exact (Nat.div_add_mod p k).symm
    have h1 : p / k < n := Nat.div_lt_of_lt_mul (by rw [Nat.mul_comm]; exact hp)
    have h2 : p % k < k := Nat.mod_lt _ hk
    generalize p / k = a at e h1
    generalize p % k = b at e h2
    subst e
    rw [flat_get h' a b h1 h2]
    by_cases ea : a = i
    · subst ea
      rw [if_pos rfl]
      by_cases eb : b = r
      · subst eb
        rw [List.getElem?_set_self (by omega), List.getElem?_set_self (by rw [h a h1]; omega)]
      · rw [List.getElem?_set_ne (by omega), List.getElem?_set_ne (by omega), flat_get h a b h1 h2]
    · rw [if_neg ea]
      have hne : i * k + r ≠ a * k + b := by
        intro e
        rcases Nat.lt_or_gt_of_ne ea with hlt | hgt
        · have : (a + 1) * k ≤ i * k := Nat.mul_le_mul_right k hlt
          rw [Nat.succ_mul] at this
          omega
        · have : (i + 1) * k ≤ a * k := Nat.mul_le_mul_right k hgt
          rw [Nat.succ_mul] at this
          omega
      rw [List.getElem?_set_ne hne, flat_get h a b h1 h2]
  · rw [List.getElem?_eq_none (by rw [List.length_set]; omega), List.getElem?_eq_none (by omega)]

end Go.Proofs.YtejfcapocikjmaaGreatDoor

namespace Go.Proofs.YtejfcapocikjmaaGreatDoor
open Go.RowKit
set_option linter.unusedVariables false

theorem Tryz.infoU8 : (Tryz.prog.info? 5).map (fun i => (i.zero, i.size, i.bytes)) = some (some (.int .u8 0), 1, 1) := by kernel_rfl


end Go.Proofs.YtejfcapocikjmaaGreatDoor

namespace Go.Proofs.YtejfcapocikjmaaGreatDoor
open Go.RowKit
set_option linter.unusedVariables false

def RdC (w : World) (a : Option Addr) (D : Nat → Int) (P : Nat → List Int) (n : Nat) : Prop :=
  0 < n → ∃ (b off : Nat) (A : Nat → Option Addr) (C : Nat → Nat), a = some ⟨b, off, none⟩ ∧ b < w.heap.size ∧ ∀ i, i < n → w.cell? ⟨b, off + i * 2, none⟩ = some (.int .i64 (D i)) ∧ w.cell? ⟨b, off + i * 2 + 1, none⟩ = some (.slice (A i) (P i).length (C i)) ∧ Reads .u8 w (A i) (P i)

theorem RdC.below {w w' : World} {a : Option Addr} {D : Nat → Int} {P : Nat → List Int} {n : Nat} (h : RdC w a D P n) (hk : Below w.heap.size w w') : RdC w' a D P n := by
  intro hn
  obtain ⟨b, off, A, C, e, hb, hc⟩ := h hn
  exact ⟨b, off, A, C, e, Nat.lt_of_lt_of_le hb hk.size, fun i hi => ⟨(hk.cell (p := ⟨b, off + i * 2, none⟩) hb).trans (hc i hi).1, (hk.cell (p := ⟨b, off + i * 2 + 1, none⟩) hb).trans (hc i hi).2.1, (hc i hi).2.2.below hk⟩⟩

def chCells (D : Nat → Int) (P : Nat → List Int) (A : Nat → Option Addr) (C : Nat → Nat) (i : Nat) : List Value := [.int .i64 (D i), .slice (A i) (P i).length (C i)]

def GC (B T : Nat) (w : World) (v : Value) (D : Nat → Int) (P : Nat → List Int) (n : Nat) : Prop :=
  ∃ (A : Nat → Option Addr) (C : Nat → Nat), w.ownsRow B 65 2 v n (flat n (chCells D P A C)) ∧
    (∀ i, i < n → w.ownsRow B 5 1 (.slice (A i) (P i).length (C i)) (P i).length ((P i).map (Value.int .u8))) ∧
    (∀ i i' g, i < n → i' < n → (A i).map Addr.block = some g → (A i').map Addr.block = some g → i = i') ∧
    (∀ i g, i < n → (A i).map Addr.block = some g → g < T) ∧ ∀ b, v.ownBlock = some b → b < T

theorem Tryz.infoCh : (Tryz.prog.info? 65).map (fun i => (i.zero, i.size, i.bytes)) = some (some (.agg #[.int .i64 0, .slice none 0 0]), 2, 32) := by kernel_rfl





end Go.Proofs.YtejfcapocikjmaaGreatDoor

namespace Go.Proofs.YtejfcapocikjmaaGreatDoor
open Go.RowKit
set_option linter.unusedVariables false

theorem chCells_length (D : Nat → Int) (P : Nat → List Int) (A : Nat → Option Addr) (C : Nat → Nat) (i : Nat) : (chCells D P A C i).length = 2 := rfl

theorem reads_owned {w : World} {B : Nat} {e : TypeId} {k : IntKind} {a : Option Addr} {n c : Nat} {zs : List Int} (h : w.ownsRow B e 1 (.slice a n c) n (zs.map (Value.int k))) (hn : n = zs.length) : Reads k w a zs := by
  intro hz
  have h0 : 0 < n := by rw [hn]; exact List.length_pos_iff.2 hz
  obtain ⟨g, cap, hv, hg, hgl, hc, hf⟩ := ownsRow_ints h hn h0
  simp only [Value.slice.injEq, true_and] at hv
  exact ⟨g, 0, hv.1, hgl, fun i hi => by rw [Nat.zero_add]; exact hc i (by omega)⟩

theorem GC.rd {B T : Nat} {w : World} {a : Option Addr} {c : Nat} {D : Nat → Int} {P : Nat → List Int} {n : Nat} (h : GC B T w (.slice a n c) D P n) : RdC w a D P n := by
  intro hn
  obtain ⟨A, C, h1, h2, h3, h4, h5⟩ := h
  rcases h1.2 with ⟨_, h0⟩ | ⟨g, cap, cur, h', hb, hh, hnc, hcm, hcs, htake⟩
  · omega
  · simp only [Value.slice.injEq, true_and] at h'
    obtain ⟨rfl, rfl⟩ := h'
    have hf := fun i r hi hr => flat_get (n := n) (k := 2) (F := chCells D P A C) (fun i _ => chCells_length _ _ _ _ _) i r hi hr
    refine ⟨g, 0, A, C, rfl, (h1.lt g rfl).2, fun i hi => ⟨?_, ?_, reads_owned (h2 i hi) rfl⟩⟩
    · rw [Nat.zero_add, h1.cellAt (i * 2) (by omega)]
      have := hf i 0 hi (by decide)
      rw [Nat.add_zero] at this
      rw [this]; rfl
    · rw [Nat.zero_add, h1.cellAt (i * 2 + 1) (by omega), hf i 1 hi (by decide)]; rfl

theorem GC.kept {S : Nat → Prop} {B T : Nat} {w w' : World} {v : Value} {D : Nat → Int} {P : Nat → List Int} {n : Nat} (h : GC B T w v D P n) (hk : Kept S w w') (hS : ∀ b, B ≤ b → b < T → ¬ S b) : GC B T w' v D P n := by
  obtain ⟨A, C, h1, h2, h3, h4, h5⟩ := h
  refine ⟨A, C, ownsRow_kept h1 hk (fun b hb => hS b (h1.lt b hb).1 (h5 b hb)), fun i hi => ownsRow_kept (h2 i hi) hk (fun b hb => hS b ((h2 i hi).lt b hb).1 (h4 i b hi ?_)), h3, h4, h5⟩
  cases hA : A i with
  | none => rw [hA] at hb; simp [Value.ownBlock] at hb
  | some x => rw [hA] at hb; simpa [Value.ownBlock] using hb
theorem GC.below {B T : Nat} {w w' : World} {v : Value} {D : Nat → Int} {P : Nat → List Int} {n : Nat} (h : GC B T w v D P n) (hk : Below w.heap.size w w') : GC B T w' v D P n :=
  h.kept (S := fun _ => False) (Kept.of_below hk) (fun _ _ _ => id)

theorem GC.mono {B B' T : Nat} {w : World} {v : Value} {D : Nat → Int} {P : Nat → List Int} {n : Nat} (h : GC B T w v D P n) (hB : B' ≤ B) : GC B' T w v D P n := by
  obtain ⟨A, C, h1, h2, h3, h4, h5⟩ := h
  exact ⟨A, C, ownsRow_mono h1 hB, fun i hi => ownsRow_mono (h2 i hi) hB, h3, h4, h5⟩
theorem GC.wide {B T T' : Nat} {w : World} {v : Value} {D : Nat → Int} {P : Nat → List Int} {n : Nat} (h : GC B T w v D P n) (hT : T ≤ T') : GC B T' w v D P n := by
  obtain ⟨A, C, h1, h2, h3, h4, h5⟩ := h
  exact ⟨A, C, h1, h2, h3, fun i g hi hg => Nat.lt_of_lt_of_le (h4 i g hi hg) hT, fun b hb => Nat.lt_of_lt_of_le (h5 b hb) hT⟩
theorem GC.nil (B T : Nat) (w : World) (D : Nat → Int) (P : Nat → List Int) : GC B T w (.slice none 0 0) D P 0 :=
  ⟨fun _ => none, fun _ => 0, World.ownsRow_nil _ _ _ _, fun i hi => absurd hi (by omega), fun i i' g hi => absurd hi (by omega), fun i g hi => absurd hi (by omega), fun b hb => by simp [Value.ownBlock] at hb⟩
end Go.Proofs.YtejfcapocikjmaaGreatDoor

namespace Go.Proofs.YtejfcapocikjmaaGreatDoor
open Go.RowKit
set_option linter.unusedVariables false

def fnvStep (h z : Int) : Int := bits BinOp.xor IntKind.u32 h z * 16777619 % 4294967296
def fnv (zs : List Int) : Int := zs.foldl fnvStep 2166136261
def digest (zs : List Int) : Int := wrap64 (bits BinOp.xor IntKind.u32 (fnv zs) ((zs.length : Int) * 65536 % 4294967296))
theorem fnv_step {zs : List Int} {k : Nat} {z : Int} (hk : k < zs.length) (hz : zs.getD k 0 = z) : fnv (zs.take (k + 1)) = fnvStep (fnv (zs.take k)) z := by
  unfold fnv
  rw [List.take_succ_eq_append_getElem hk, List.foldl_append]
  simp [List.getD_eq_getElem?_getD, hk] at hz
  simp [hz]

set_option maxHeartbeats 400000 in
theorem specDigestOf_any (a : Option Addr) (cap : Nat) (zs : List Int) (w : World) (h : Reads .u8 w a zs) (hu : U8 zs) (hl : zs.length ≤ 1048576) :
    Calls Tryz.prog 57 #[.slice a zs.length cap] w fun e w' => e = .returned (.int .i64 (digest zs)) ∧ w' = w := by
  go_enter Tryz.func57, Tryz.ntmps57
  go_wp2
  go_loop [3, 4] (fun h i => ∃ k : Nat, k ≤ zs.length ∧ i = .int .i64 k ∧ h = .int .u32 (fnv (zs.take k))) (fun _ i => zs.length - (intOf i).toNat)
  case atStart => exact ⟨0, Nat.zero_le _, rfl, rfl⟩
  case round =>
    obtain ⟨k, hk, rfl, rfl⟩ := hrel
    generalize hx : fnv (zs.take k) = x
    have HX := hide hx
    clear hx
    by_cases hlt : k < zs.length
    · obtain ⟨b, off, rfl, hb, hc⟩ := h (by intro e; simp [e] at hlt)
      have hz01 := hu.get k
      have hc1 := hc k hlt
      generalize hz : zs.getD k 0 = z at hz01 hc1
      have HZ := hide hz
      have HC := hide hc
      clear hc h hz
      go_wp2
      go_round
      case rel => exact ⟨k + 1, by omega, by go_num, by rw [fnv_step hlt HZ.out, HX.out]; rfl⟩
      case measure => simp [intOf]; omega
    · go_wp2
      go_ret
      exact ⟨ret_int (by unfold digest; rw [← HX.out, List.take_of_length_le (by omega)]), rfl⟩

set_option maxHeartbeats 400000 in
theorem implDigestOf_any (a : Option Addr) (cap : Nat) (zs : List Int) (w : World) (h : Reads .u8 w a zs) (hu : U8 zs) (hl : zs.length ≤ 1048576) :
    Calls Tryz.prog 81 #[.slice a zs.length cap] w fun e w' => e = .returned (.int .i64 (digest zs)) ∧ w' = w := by
  go_enter Tryz.func81, Tryz.ntmps81
  go_wp2
  go_loop [3, 5, 8] (fun h _ i => ∃ k : Nat, k ≤ zs.length ∧ i = .int .i64 k ∧ h = .int .u32 (fnv (zs.take k))) (fun _ _ i => zs.length - (intOf i).toNat)
  case atStart => exact ⟨0, Nat.zero_le _, rfl, rfl⟩
  case round =>
    obtain ⟨k, hk, rfl, rfl⟩ := hrel
    generalize hx : fnv (zs.take k) = x
    have HX := hide hx
    clear hx
    by_cases hlt : k < zs.length
    · obtain ⟨b, off, rfl, hb, hc⟩ := h (by intro e; simp [e] at hlt)
      have hz01 := hu.get k
      have hc1 := hc k hlt
      generalize hz : zs.getD k 0 = z at hz01 hc1
      have HZ := hide hz
      have HC := hide hc
      clear hc h hz
      go_wp2
      go_round
      case rel => exact ⟨k + 1, by omega, by go_num, by rw [fnv_step hlt HZ.out, HX.out]; rfl⟩
      case measure => simp [intOf]; omega
    · go_wp2
      go_ret
      exact ⟨ret_int (by unfold digest; rw [← HX.out, List.take_of_length_le (by omega)]), rfl⟩

theorem bits_u32 (op : BinOp) (x y : Int) : 0 ≤ bits op .u32 x y ∧ bits op .u32 x y < 4294967296 := by
  unfold bits
  simp only [IntKind.wrap_u32]
  omega
theorem digest_range (zs : List Int) : 0 ≤ digest zs ∧ digest zs ≤ 4294967295 := by
  have h := bits_u32 .xor (fnv zs) ((zs.length : Int) * 65536 % 4294967296)
  unfold digest wrap64
  omega

end Go.Proofs.YtejfcapocikjmaaGreatDoor

namespace Go.Proofs.YtejfcapocikjmaaGreatDoor
open Go.RowKit
set_option linter.unusedVariables false

def oneFault (d : Int) (zs : List Int) : Int :=
  if 0 ≤ d ∧ d ≤ 4294967295 then (if 1 ≤ zs.length ∧ zs.length ≤ 8 then (if digest zs = d then 0 else 6) else 2) else 3
def atFault (D : Nat → Int) (P : Nat → List Int) (i : Nat) : Option Int :=
  if oneFault (D i) (P i) ≠ 0 then some (oneFault (D i) (P i)) else if 0 < i ∧ D i ≤ D (i - 1) then some 1 else none
def firstBad (f : Nat → Option Int) : Nat → Nat → Int
  | _, 0 => 0
  | i, m + 1 => match f i with | some c => c | none => firstBad f (i + 1) m
def fault (D : Nat → Int) (P : Nat → List Int) (n : Nat) : Int := if 40 < n then 2 else firstBad (atFault D P) 0 n

theorem firstBad_hit {f : Nat → Option Int} {k n : Nat} {c : Int} (hk : k < n) (h : f k = some c) : firstBad f k (n - k) = c := by
  obtain ⟨m, hm⟩ : ∃ m, n - k = m + 1 := ⟨n - k - 1, by omega⟩
  rw [hm]; simp [firstBad, h]
theorem firstBad_miss {f : Nat → Option Int} {k n : Nat} (hk : k < n) (h : f k = none) : firstBad f k (n - k) = firstBad f (k + 1) (n - (k + 1)) := by
  obtain ⟨m, hm⟩ : ∃ m, n - k = m + 1 := ⟨n - k - 1, by omega⟩
  have : n - (k + 1) = m := by omega
  rw [hm, this]; simp [firstBad, h]
theorem firstBad_end {f : Nat → Option Int} {k n : Nat} (hk : n ≤ k) : firstBad f k (n - k) = 0 := by
  have : n - k = 0 := by omega
  rw [this]; rfl
theorem firstBad_none {f : Nat → Option Int} (hf : ∀ j c, f j = some c → c ≠ 0) : ∀ (m i : Nat), firstBad f i m = 0 → ∀ j, i ≤ j → j < i + m → f j = none
  | 0, i, _, j, h1, h2 => by omega
  | m + 1, i, h, j, h1, h2 => by
    simp only [firstBad] at h
    cases hi : f i with
    | some c => rw [hi] at h; exact absurd h (hf i c hi)
    | none =>
      rw [hi] at h
      by_cases e : j = i
      · subst e; exact hi
      · exact firstBad_none hf m (i + 1) h j (by omega) (by omega)

theorem atFault_ne (D : Nat → Int) (P : Nat → List Int) (j : Nat) (c : Int) (h : atFault D P j = some c) : c ≠ 0 := by
  unfold atFault at h
  split at h
  · rename_i h1; cases h; exact h1
  · split at h
    · cases h; decide
    · cases h
theorem oneFault_zero {d : Int} {zs : List Int} (h : oneFault d zs = 0) : (0 ≤ d ∧ d ≤ 4294967295) ∧ (1 ≤ zs.length ∧ zs.length ≤ 8) ∧ digest zs = d := by
  unfold oneFault at h
  split at h
  · rename_i h1
    split at h
    · rename_i h2
      split at h
      · rename_i h3; exact ⟨h1, h2, h3⟩
      · omega
    · omega
  · omega
structure RightC (D : Nat → Int) (P : Nat → List Int) (n : Nat) : Prop where
  many : n ≤ 40
  range : ∀ i, i < n → 0 ≤ D i ∧ D i ≤ 4294967295
  len : ∀ i, i < n → 1 ≤ (P i).length ∧ (P i).length ≤ 8
  sum : ∀ i, i < n → digest (P i) = D i
  up : ∀ i, i + 1 < n → D i < D (i + 1)
theorem fault_zero {D : Nat → Int} {P : Nat → List Int} {n : Nat} (h : fault D P n = 0) : RightC D P n := by
  unfold fault at h
  split at h
  · omega
  · rename_i hn
    have hz := firstBad_none (atFault_ne D P) n 0 h
    have hone : ∀ i, i < n → oneFault (D i) (P i) = 0 ∧ ¬ (0 < i ∧ D i ≤ D (i - 1)) := fun i hi => by
      have := hz i (Nat.zero_le _) (by omega)
      unfold atFault at this
      split at this
      · cases this
      · rename_i h1
        split at this
        · cases this
        · rename_i h2; exact ⟨Decidable.not_not.1 h1, h2⟩
    refine ⟨by omega, fun i hi => (oneFault_zero (hone i hi).1).1, fun i hi => (oneFault_zero (hone i hi).1).2.1, fun i hi => (oneFault_zero (hone i hi).1).2.2, fun i hi => ?_⟩
    have := (hone (i + 1) hi).2
    simp only [Nat.add_sub_cancel] at this
    omega
theorem atFault_right {D : Nat → Int} {P : Nat → List Int} {n : Nat} (h : RightC D P n) : ∀ i, i < n → atFault D P i = none := fun i hi => by
  have h0 : oneFault (D i) (P i) = 0 := by unfold oneFault; rw [if_pos (h.range i hi), if_pos (h.len i hi), if_pos (h.sum i hi)]
  unfold atFault
  rw [if_neg (by rw [h0]; simp), if_neg]
  rintro ⟨h1, h2⟩
  have := h.up (i - 1) (by omega)
  rw [Nat.sub_add_cancel h1] at this
  omega
theorem firstBad_zero {f : Nat → Option Int} : ∀ (m i : Nat), (∀ j, i ≤ j → j < i + m → f j = none) → firstBad f i m = 0
  | 0, _, _ => rfl
  | m + 1, i, h => by
    simp only [firstBad, h i (Nat.le_refl _) (by omega)]
    exact firstBad_zero m (i + 1) (fun j h1 h2 => h j (by omega) (by omega))
theorem fault_right {D : Nat → Int} {P : Nat → List Int} {n : Nat} (h : RightC D P n) : fault D P n = 0 := by
  unfold fault
  rw [if_neg (by have := h.many; omega)]
  exact firstBad_zero n 0 (fun j _ h2 => atFault_right h j (by omega))

end Go.Proofs.YtejfcapocikjmaaGreatDoor

namespace Go.Proofs.YtejfcapocikjmaaGreatDoor
open Go.RowKit
set_option linter.unusedVariables false

set_option maxHeartbeats 400000 in
theorem specOne_any (d : Int) (a : Option Addr) (c : Nat) (zs : List Int) (w : World) (h : Reads .u8 w a zs) (hu : U8 zs) (hl : zs.length ≤ 1048576) :
    Calls Tryz.prog 74 #[.int .i64 d, .slice a zs.length c] w fun e w' => e = .returned (.int .i64 (oneFault d zs)) ∧ ∃ n, w' = w.drewN n := by
  have HR := hide h
  have HU := hide hu
  clear h hu
  unfold oneFault
  by_cases c1 : 0 ≤ d
  · by_cases c2 : d ≤ 4294967295
    · rw [if_pos ⟨c1, c2⟩]
      by_cases c3 : 1 ≤ zs.length
      · by_cases c4 : zs.length ≤ 8
        · rw [if_pos ⟨c3, c4⟩]
          have c3' : ¬ (zs.length : Int) < 1 := by omega
          have c4' : ¬ (8 : Int) < (zs.length : Int) := by omega
          have HD := hide (specDigestOf_any a c zs w HR.out HU.out hl)
          generalize digest zs = g at HD ⊢
          by_cases c5 : g = d
          · have c5' : (g != d) = false := by simp [c5]
            rw [if_pos c5]
            clear c5
            go_enter Tryz.func74, Tryz.ntmps74
            go_wp2_with (first | (go_at_call 57; refine HD.out.mono ?_; rintro e w1 ⟨rfl, rfl⟩) | go_in)
            go_ret
            exact ⟨rfl, 0, rfl⟩
          · have c5' : (g != d) = true := by simp [c5]
            rw [if_neg c5]
            clear c5
            go_enter Tryz.func74, Tryz.ntmps74
            go_wp2_with (first | (go_at_call 57; refine HD.out.mono ?_; rintro e w1 ⟨rfl, rfl⟩) | go_in)
            go_ret
            exact ⟨rfl, 0, rfl⟩
        · rw [if_neg (fun h => c4 h.2)]
          have c3' : ¬ (zs.length : Int) < 1 := by omega
          have c4' : (8 : Int) < (zs.length : Int) := by omega
          go_enter Tryz.func74, Tryz.ntmps74
          go_wp2
          go_ret
          exact ⟨rfl, 0, rfl⟩
      · rw [if_neg (fun h => c3 h.1)]
        have c3' : (zs.length : Int) < 1 := by omega
        go_enter Tryz.func74, Tryz.ntmps74
        go_wp2
        go_ret
        exact ⟨rfl, 0, rfl⟩
    · rw [if_neg (fun h => c2 h.2)]
      go_enter Tryz.func74, Tryz.ntmps74
      go_wp2
      go_ret
      exact ⟨rfl, 0, rfl⟩
  · rw [if_neg (fun h => c1 h.1)]
    go_enter Tryz.func74, Tryz.ntmps74
    go_wp2
    go_ret
    exact ⟨rfl, 0, rfl⟩

set_option maxHeartbeats 800000 in
theorem implOne_any (d : Int) (a : Option Addr) (c : Nat) (zs : List Int) (w : World) (h : Reads .u8 w a zs) (hu : U8 zs) (hl : zs.length ≤ 1048576) :
    Calls Tryz.prog 54 #[.agg #[.int .i64 d, .slice a zs.length c]] w fun e w' => e = .returned (.int .i64 (oneFault d zs)) ∧ Below w.heap.size w w' := by
  have HR := hide h
  have HU := hide hu
  clear h hu
  unfold oneFault
  by_cases c1 : 0 ≤ d
  · by_cases c2 : d ≤ 4294967295
    · rw [if_pos ⟨c1, c2⟩]
      by_cases c3 : 1 ≤ zs.length
      · by_cases c4 : zs.length ≤ 8
        · rw [if_pos ⟨c3, c4⟩]
          have c3' : ¬ (zs.length : Int) < 1 := by omega
          have c4' : ¬ (8 : Int) < (zs.length : Int) := by omega
          have HD := hide (fun u hr => implDigestOf_any a c zs u hr HU.out hl)
          generalize digest zs = g at HD ⊢
          have HR1 := hide (HR.out.below (below_alloc w (.cells #[.int .i64 d, .slice a zs.length c] 65)))
          have HB1 := hide (below_alloc w (.cells #[.int .i64 d, .slice a zs.length c] 65))
          by_cases c5 : g = d
          · have c5' : (g != d) = false := by simp [c5]
            rw [if_pos c5]
            clear c5
            go_enter Tryz.func54, Tryz.ntmps54
            go_wp2
            go_quiet ((go_at_call 81; exact Calls.quiet_of ((HD.out _ (show Reads .u8 (World.drewN (w.alloc (.cells #[.int .i64 d, .slice a zs.length c] 65)) _) a zs from HR1.out)).mono (fun e w' ⟨he, hw⟩ => ⟨he, 0, hw⟩))))
            go_wp2
            go_ret
            exact ⟨rfl, below_drewN HB1.out _⟩
          · have c5' : (g != d) = true := by simp [c5]
            rw [if_neg c5]
            clear c5
            go_enter Tryz.func54, Tryz.ntmps54
            go_wp2
            go_quiet ((go_at_call 81; exact Calls.quiet_of ((HD.out _ (show Reads .u8 (World.drewN (w.alloc (.cells #[.int .i64 d, .slice a zs.length c] 65)) _) a zs from HR1.out)).mono (fun e w' ⟨he, hw⟩ => ⟨he, 0, hw⟩))))
            go_wp2
            go_ret
            exact ⟨rfl, below_drewN HB1.out _⟩
        · rw [if_neg (fun h => c4 h.2)]
          have c3' : ¬ (zs.length : Int) < 1 := by omega
          have c4' : (8 : Int) < (zs.length : Int) := by omega
          go_enter Tryz.func54, Tryz.ntmps54
          go_wp2
          go_ret
          exact ⟨rfl, below_alloc _ _⟩
      · rw [if_neg (fun h => c3 h.1)]
        have c3' : (zs.length : Int) < 1 := by omega
        go_enter Tryz.func54, Tryz.ntmps54
        go_wp2
        go_ret
        exact ⟨rfl, below_alloc _ _⟩
    · rw [if_neg (fun h => c2 h.2)]
      go_enter Tryz.func54, Tryz.ntmps54
      go_wp2
      go_ret
      exact ⟨rfl, below_alloc _ _⟩
  · rw [if_neg (fun h => c1 h.1)]
    go_enter Tryz.func54, Tryz.ntmps54
    go_wp2
    go_ret
    exact ⟨rfl, below_alloc _ _⟩

theorem atFault_one {D : Nat → Int} {P : Nat → List Int} {k : Nat} {q : Int} (h : oneFault (D k) (P k) = q) (hq : q ≠ 0) : atFault D P k = some q := by
  unfold atFault; rw [h, if_pos hq]
theorem atFault_first {D : Nat → Int} {P : Nat → List Int} (h : oneFault (D 0) (P 0) = 0) : atFault D P 0 = none := by
  unfold atFault; rw [h, if_neg (by simp), if_neg (by simp)]
theorem atFault_form {D : Nat → Int} {P : Nat → List Int} {k : Nat} (h : oneFault (D (k + 1)) (P (k + 1)) = 0) (hd : D (k + 1) ≤ D k) : atFault D P (k + 1) = some 1 := by
  unfold atFault; rw [h, if_neg (by simp), if_pos ⟨by omega, by simpa using hd⟩]
theorem atFault_none {D : Nat → Int} {P : Nat → List Int} {k : Nat} (h : oneFault (D (k + 1)) (P (k + 1)) = 0) (hd : ¬ D (k + 1) ≤ D k) : atFault D P (k + 1) = none := by
  unfold atFault; rw [h, if_neg (by simp), if_neg (fun h => hd (by simpa using h.2))]

set_option maxHeartbeats 1600000 in
theorem specFault_any (a : Option Addr) (c n : Nat) (D : Nat → Int) (P : Nat → List Int) (w : World) (h : RdC w a D P n) (hn : n ≤ 1048576) (hP : ∀ i, i < n → U8 (P i) ∧ (P i).length ≤ 1048576) :
    Calls Tryz.prog 44 #[.slice a n c] w fun e w' => e = .returned (.int .i64 (fault D P n)) ∧ Below w.heap.size w w' := by
  have HA := hide h
  have HP := hide hP
  clear h hP
  by_cases hbig : 40 < n
  · have hb : (40 : Int) < (n : Int) := by omega
    have hf : fault D P n = 2 := by simp [fault, hbig]
    rw [hf]
    go_enter Tryz.func44, Tryz.ntmps44
    go_wp2
    go_ret
    exact ⟨rfl, Below.refl _ _⟩
  · have hb : ¬ (40 : Int) < (n : Int) := by omega
    have HF : Hid (fault D P n = firstBad (atFault D P) 0 (n - 0)) := by simp [fault, hbig, Hid]
    generalize hfl : fault D P n = F at HF ⊢
    clear hfl
    go_enter Tryz.func44, Tryz.ntmps44
    go_wp2
    go_loopw [3, 4] (fun i _ wr => ∃ k : Nat, k ≤ n ∧ i = .int .i64 k ∧ F = firstBad (atFault D P) k (n - k) ∧ Below w.heap.size w wr) (fun i _ _ => n - (intOf i).toNat)
    case atStart => exact ⟨0, Nat.zero_le _, rfl, HF.out, Below.refl _ _⟩
    case round =>
      obtain ⟨k, hk, rfl, hF, hbel⟩ := hrel
      have HF := hide hF
      have HW := hide hbel
      clear hF hbel
      by_cases hlt : k < n
      · obtain ⟨b1, o1, A1, C1, rfl, hb1, hc1⟩ := (HA.out.below HW.out) (by omega)
        obtain ⟨c1, e1, r1⟩ := hc1 k hlt
        obtain ⟨hu, hp⟩ := HP.out k hlt
        generalize A1 k = a1 at e1 r1
        generalize C1 k = d1 at e1
        have R1 := hide r1
        have U1 := hide hu
        have HC := hide hc1
        clear hc1 r1 hu
        generalize hq : oneFault (D k) (P k) = q
        have hone := hide (fun (m : Nat) => by have := specOne_any (D k) a1 d1 (P k) (wr.drewN m) R1.out U1.out hp; rwa [hq] at this)
        have HQ := hide hq
        clear hq
        generalize hxs : P k = xs at *
        generalize hdd : D k = dd at *
        have HX := hide (And.intro hxs hdd)
        clear hxs hdd
        by_cases hz : q = 0
        · have hz' : (q != 0) = false := by simp [hz]
          have HZ := hide hz
          clear hz
          cases k with
          | zero =>
            simp only [Nat.zero_mul, Nat.add_zero] at c1 e1
            go_wp2
            go_quiet ((go_at_call 74; exact Calls.quiet_of (hone.out _)))
            go_wp2
            go_quiet (fail)
            go_wp2
            go_roundw
            case rel => exact ⟨1, by omega, by go_num, by rw [HF.out]; exact firstBad_miss hlt (atFault_first (by have := HX.out; rw [this.1, this.2, HQ.out]; exact HZ.out)), below_drewN HW.out _⟩
            case measure => simp [intOf]; omega
          | succ k =>
            have hg : (0 : Int) < ((k + 1 : Nat) : Int) := by omega
            obtain ⟨c0, _, _⟩ := HC.out k (by omega)
            generalize hd0 : D k = d0 at c0
            have HD0 := hide hd0
            clear hd0
            by_cases hle : dd ≤ d0
            · go_wp2
              go_quiet ((go_at_call 74; exact Calls.quiet_of (hone.out _)))
              go_wp2
              go_quiet (fail)
              go_wp2
              go_ret
              exact ⟨ret_int (by rw [HF.out]; exact (firstBad_hit hlt (atFault_form (by have := HX.out; rw [this.1, this.2, HQ.out]; exact HZ.out) (by rw [HX.out.2, HD0.out]; omega))).symm), below_drewN (below_drewN HW.out _) _⟩
            · go_wp2
              go_quiet ((go_at_call 74; exact Calls.quiet_of (hone.out _)))
              go_wp2
              go_quiet (fail)
              go_wp2
              go_roundw
              case rel => exact ⟨k + 1 + 1, by omega, by go_num, by rw [HF.out]; exact firstBad_miss hlt (atFault_none (by have := HX.out; rw [this.1, this.2, HQ.out]; exact HZ.out) (by rw [HX.out.2, HD0.out]; omega)), below_drewN HW.out _⟩
              case measure => simp [intOf]; omega
        · have hz' : (q != 0) = true := by simp [hz]
          go_wp2
          go_quiet ((go_at_call 74; exact Calls.quiet_of (hone.out _)))
          go_wp2
          go_ret
          exact ⟨ret_int (by rw [HF.out]; exact (firstBad_hit hlt (atFault_one (by rw [HX.out.1, HX.out.2]; exact HQ.out) hz)).symm), below_drewN HW.out _⟩
      · go_wp2
        go_ret
        exact ⟨ret_int (by rw [HF.out]; exact (firstBad_end (by omega)).symm), HW.out⟩

set_option maxHeartbeats 1600000 in
theorem implFault_any (a : Option Addr) (c n : Nat) (D : Nat → Int) (P : Nat → List Int) (w : World) (h : RdC w a D P n) (hn : n ≤ 1048576) (hP : ∀ i, i < n → U8 (P i) ∧ (P i).length ≤ 1048576) :
    Calls Tryz.prog 27 #[.slice a n c] w fun e w' => e = .returned (.int .i64 (fault D P n)) ∧ Below w.heap.size w w' := by
  have HA := hide h
  have HP := hide hP
  clear h hP
  by_cases hbig : 40 < n
  · have hb : (40 : Int) < (n : Int) := by omega
    have hf : fault D P n = 2 := by simp [fault, hbig]
    rw [hf]
    go_enter Tryz.func27, Tryz.ntmps27
    go_wp2
    go_ret
    exact ⟨rfl, Below.refl _ _⟩
  · have hb : ¬ (40 : Int) < (n : Int) := by omega
    have HF : Hid (fault D P n = firstBad (atFault D P) 0 (n - 0)) := by simp [fault, hbig, Hid]
    generalize hfl : fault D P n = F at HF ⊢
    clear hfl
    go_enter Tryz.func27, Tryz.ntmps27
    go_wp2
    go_loopw [3, 4, 5, 11] (fun _ _ _ i wr => ∃ k : Nat, k ≤ n ∧ i = .int .i64 k ∧ F = firstBad (atFault D P) k (n - k) ∧ Below w.heap.size w wr) (fun _ _ _ i _ => n - (intOf i).toNat)
    case atStart => exact ⟨0, Nat.zero_le _, rfl, HF.out, Below.refl _ _⟩
    case round =>
      obtain ⟨k, hk, rfl, hF, hbel⟩ := hrel
      have HF := hide hF
      have HW := hide hbel
      clear hF hbel
      by_cases hlt : k < n
      · obtain ⟨b1, o1, A1, C1, rfl, hb1, hc1⟩ := (HA.out.below HW.out) (by omega)
        obtain ⟨c1, e1, r1⟩ := hc1 k hlt
        obtain ⟨hu, hp⟩ := HP.out k hlt
        generalize A1 k = a1 at e1 r1
        generalize C1 k = d1 at e1
        have R1 := hide r1
        have U1 := hide hu
        have HC := hide hc1
        clear hc1 r1 hu
        generalize hq : oneFault (D k) (P k) = q
        have HQ := hide hq
        clear hq
        generalize hxs : P k = xs at *
        generalize hdd : D k = dd at *
        have HX := hide (And.intro hxs hdd)
        clear hxs hdd
        have hone := implOne_any dd a1 d1 xs (wr.alloc (.cells #[.int .i64 dd, .slice a1 xs.length d1] 65)) (R1.out.below (below_alloc _ _)) U1.out hp
        rw [HQ.out] at hone
        have HO := hide hone
        clear hone
        go_wp2_with fail
        refine HO.out.mono ?_
        rintro e w2 ⟨rfl, b2⟩
        obtain ⟨t0, t1⟩ := (Two.new wr (.int .i64 dd) (.slice a1 xs.length d1) 65).below b2
        have B2 := hide (below_next (below_alloc _ _) b2)
        have BW := hide (below_next HW.out B2.out)
        clear b2 HO
        by_cases hz : q = 0
        · have hz' : (q != 0) = false := by simp [hz]
          have HZ := hide hz
          clear hz
          cases k with
          | zero =>
            go_wp2
            go_quiet (fail)
            go_wp2
            go_roundw
            case rel => exact ⟨1, by omega, by go_num, by rw [HF.out]; exact firstBad_miss hlt (atFault_first (by have := HX.out; rw [this.1, this.2, HQ.out]; exact HZ.out)), below_drewN BW.out _⟩
            case measure => simp [intOf]; omega
          | succ k =>
            have hg : (0 : Int) < ((k + 1 : Nat) : Int) := by omega
            obtain ⟨c0, _, _⟩ := HC.out k (by omega)
            have c0' := (B2.out.cell (p := ⟨b1, o1 + k * 2, none⟩) hb1).trans c0
            generalize hd0 : D k = d0 at c0'
            have HD0 := hide hd0
            clear hd0 c0
            by_cases hle : dd ≤ d0
            · go_wp2
              go_quiet (fail)
              go_wp2
              go_ret
              exact ⟨ret_int (by rw [HF.out]; exact (firstBad_hit hlt (atFault_form (by have := HX.out; rw [this.1, this.2, HQ.out]; exact HZ.out) (by rw [HX.out.2, HD0.out]; exact hle))).symm), below_drewN BW.out _⟩
            · go_wp2
              go_quiet (fail)
              go_wp2
              go_roundw
              case rel => exact ⟨k + 1 + 1, by omega, by go_num, by rw [HF.out]; exact firstBad_miss hlt (atFault_none (by have := HX.out; rw [this.1, this.2, HQ.out]; exact HZ.out) (by rw [HX.out.2, HD0.out]; omega)), below_drewN BW.out _⟩
              case measure => simp [intOf]; omega
        · have hz' : (q != 0) = true := by simp [hz]
          go_wp2
          go_ret
          exact ⟨ret_int (by rw [HF.out]; exact (firstBad_hit hlt (atFault_one (by rw [HX.out.1, HX.out.2]; exact HQ.out) hz)).symm), BW.out⟩
      · go_wp2
        go_ret
        exact ⟨ret_int (by rw [HF.out]; exact (firstBad_end (by omega)).symm), HW.out⟩


end Go.Proofs.YtejfcapocikjmaaGreatDoor

namespace Go.Proofs.YtejfcapocikjmaaGreatDoor
open Go.RowKit Go.Maps
set_option linter.unusedVariables false

abbrev Ch := Int × List Int
def lst (D : Nat → Int) (P : Nat → List Int) (n : Nat) : List Ch := (List.range n).map fun i => (D i, P i)
theorem lst_succ (D : Nat → Int) (P : Nat → List Int) (n : Nat) : lst D P (n + 1) = lst D P n ++ [(D n, P n)] := by simp [lst, List.range_succ]
theorem lst_length (D : Nat → Int) (P : Nat → List Int) (n : Nat) : (lst D P n).length = n := by simp [lst]
theorem lst_mem {D : Nat → Int} {P : Nat → List Int} {n : Nat} {p : Ch} : p ∈ lst D P n ↔ ∃ i, i < n ∧ p = (D i, P i) := by
  simp [lst, eq_comm]
theorem lst_key {D : Nat → Int} {P : Nat → List Int} {n : Nat} {d : Int} : d ∈ (lst D P n).map Prod.fst ↔ ∃ i, i < n ∧ D i = d := by
  simp [lst]

def RV (v : Value) : Option (DataW Value × List MemPlace) := some (.held v, [])
def chv (d : Int) (a : Option Addr) (n c : Nat) : Value := .agg #[.int .i64 d, .slice a n c]

theorem law64 : Keyed Tryz.prog 2 := int_keyed Tryz.underlying2
theorem zeroCh (w : World) : (zeroValue 65).run Tryz.prog w = .ok (.agg #[.int .i64 0, .slice none 0 0]) w := by kernel_rfl
theorem i64_wf {d : Int} (h0 : 0 ≤ d) (h1 : d ≤ 4294967295) : (Lit.int .i64 d).wf = true := by
  simp [Lit.wf, IntKind.min, IntKind.max, IntKind.signed, IntKind.bits]; omega
theorem key64 {d : Int} (h : (Lit.int .i64 d).wf = true) : keyOf Tryz.prog 2 (.int .i64 d) = some (.int .i64 d) := keyOf_int_mk Tryz.underlying2 h

def Holds (w : World) (b N : Nat) (L : List Ch) (T : Nat) : Prop :=
  ∃ (Dt : DataW Value) (A : Int → Option Addr) (C : Int → Nat), w.ownsMap Tryz.prog 2 RV b N Dt ∧ (∀ k, has Dt (.int .i64 k) = decide (k ∈ L.map Prod.fst)) ∧
    (∀ p ∈ L, (∀ z, Dt.atKey (.int .i64 p.1) z = .held (chv p.1 (A p.1) p.2.length (C p.1))) ∧ Reads .u8 w (A p.1) p.2 ∧ ∀ x, A p.1 = some x → x.block < T) ∧ size Dt = L.length ∧ (L.map Prod.fst).Nodup

theorem Holds.lt {w : World} {b N : Nat} {L : List Ch} {T : Nat} (h : Holds w b N L T) : b < w.heap.size := by
  obtain ⟨Dt, A, C, h1, _⟩ := h
  exact h1.lt

theorem ownsMap_kept {S : Nat → Prop} {w w' : World} {b N : Nat} {Dt : DataW Value} (h : w.ownsMap Tryz.prog 2 RV b N Dt) (hk : Kept S w w') (hb : ¬ S b) : w'.ownsMap Tryz.prog 2 RV b N Dt := by
  have hlt := h.lt
  obtain ⟨es, clock, hh, r⟩ := h
  exact ⟨es, clock, (hk.block b hlt hb).trans hh, r⟩
theorem ownsMap_cell {w : World} {b N : Nat} {Dt : DataW Value} (h : w.ownsMap Tryz.prog 2 RV b N Dt) {b' o : Nat} {v : Value} (hc : w.cell? ⟨b', o, none⟩ = some v) : b' ≠ b := by
  obtain ⟨es, clock, hh, r⟩ := h
  intro e
  subst e
  simp [World.cell?, hh] at hc
theorem Reads.far {w : World} {b N : Nat} {Dt : DataW Value} (h : w.ownsMap Tryz.prog 2 RV b N Dt) {a : Option Addr} {zs : List Int} (hr : Reads .u8 w a zs) : zs ≠ [] → ∀ x, a = some x → x.block ≠ b := by
  intro hz x hx
  obtain ⟨b1, off, e, hb, hc⟩ := hr hz
  subst e
  cases hx
  have h0 : 0 < zs.length := List.length_pos_iff.2 hz
  exact ownsMap_cell h (hc 0 h0)

theorem Holds.kept {S : Nat → Prop} {w w' : World} {b N : Nat} {L : List Ch} {T : Nat} (h : Holds w b N L T) (hk : Kept S w w') (hb : ¬ S b) (hS : ∀ x, S x → T ≤ x) : Holds w' b N L T := by
  obtain ⟨Dt, A, C, h1, h2, h3, h4⟩ := h
  refine ⟨Dt, A, C, ownsMap_kept h1 hk hb, h2, fun p hp => ⟨(h3 p hp).1, (h3 p hp).2.1.kept hk (fun hz x hx hs => ?_), (h3 p hp).2.2⟩, h4⟩
  have h5 := hS _ hs
  have h6 := (h3 p hp).2.2 x hx
  omega
theorem Holds.below {w w' : World} {b N : Nat} {L : List Ch} {T : Nat} (h : Holds w b N L T) (hk : Below w.heap.size w w') : Holds w' b N L T :=
  h.kept (S := fun _ => False) (Kept.of_below hk) id (fun _ h => h.elim)

theorem Kept.of_grown {w w' : World} {b : Nat} (h : w.grownBy w' (some b)) : Kept (fun x => x = b) w w' :=
  ⟨h.os, h.tape, h.output, h.size, fun k hk hn => h.block k hk (fun e => hn (by simpa using e))⟩

theorem Holds.made (w : World) (T : Nat) : Holds (w.alloc (.map #[] 0)) w.heap.size 0 [] T :=
  ⟨.map [], fun _ => none, fun _ => 0, World.ownsMap_made _ _ _ _, fun k => by simp [has], fun p hp => by simp at hp, rfl, List.nodup_nil⟩

theorem isKey64 (d : Int) : WideAt.IsKeyLit (.int .i64 d) := trivial

theorem Holds.put {w : World} {b N : Nat} {L : List Ch} {d : Int} {zs : List Int} {a : Option Addr} {c T : Nat} (h : Holds w b N L T) (hd : d ∉ L.map Prod.fst) (hr : Reads .u8 w a zs) (hT : ∀ x, a = some x → x.block < T) :
    ∃ Dt, w.ownsMap Tryz.prog 2 RV b N Dt ∧ ∀ w', w'.ownsMap Tryz.prog 2 RV b (N + 1) (Dt.put (.int .i64 d) (.held (chv d a zs.length c))) → w.grownBy w' (some b) → Holds w' b (N + 1) (L ++ [(d, zs)]) T := by
  obtain ⟨Dt, A, C, h1, h2, h3, h4, h5⟩ := h
  refine ⟨Dt, h1, fun w' ho hg => ?_⟩
  have hk := Kept.of_grown hg
  have hkeep : ∀ {x : Option Addr} {ys : List Int}, Reads .u8 w x ys → Reads .u8 w' x ys := fun hx => hx.kept hk (fun hz y hy e => Reads.far h1 hx hz y hy e)
  have hne : ∀ p ∈ L, p.1 ≠ d := fun p hp e => hd (by rw [← e]; exact List.mem_map_of_mem hp)
  refine ⟨_, fun k => if k = d then a else A k, fun k => if k = d then c else C k, ho, fun k => ?_, fun p hp => ?_, ?_, ?_⟩
  · by_cases e : k = d
    · subst e
      rw [has_put_same h1.isMap (isKey64 _)]
      simp
    · rw [has_put_other (by simpa using e), h2 k]
      simp [e]
  · rcases List.mem_append.1 hp with hp | hp
    · have e := hne p hp
      simp only [if_neg e]
      exact ⟨fun z => by rw [atKey_put_other (by simpa using e)]; exact (h3 p hp).1 z, hkeep (h3 p hp).2.1, (h3 p hp).2.2⟩
    · simp at hp
      subst hp
      simp only [if_true]
      exact ⟨fun z => atKey_put_same h1.isMap (isKey64 _) _ _, hkeep hr, hT⟩
  · rw [size_put (h1.tidy law64), h2 d, h4]
    simp [hd]
  · rw [List.map_append, List.nodup_append]
    refine ⟨h5, by simp, fun x hx y hy => ?_⟩
    simp at hy
    subst hy
    intro e
    subst e
    exact hd hx

theorem Holds.yes {w : World} {b N : Nat} {L : List Ch} {d : Int} {zs : List Int} {T : Nat} (h : Holds w b N L T) (hp : (d, zs) ∈ L) (hw : (Lit.int .i64 d).wf = true) (t : TypeId) (ht : Tryz.prog.underlying t = some (.map 2 65)) :
    ∃ a c, (∀ k : Bool, (Instr.lookup t (.map (some b)) (.int .i64 d) k).run Tryz.prog w = .ok (if k then .tuple #[chv d a zs.length c, .bool true] else chv d a zs.length c) w) ∧ Reads .u8 w a zs ∧ ∀ x, a = some x → x.block < T := by
  obtain ⟨Dt, A, C, h1, h2, h3, h4, h5⟩ := h
  have hm : d ∈ L.map Prod.fst := List.mem_map_of_mem (f := Prod.fst) hp
  refine ⟨A d, C d, fun k => ?_, (h3 _ hp).2⟩
  cases k with
  | true =>
    obtain ⟨v, ps, hrun, hv⟩ := h1.look_ok law64 ht (zeroCh w) (zd := .held (.agg #[.int .i64 0, .slice none 0 0])) (zp := []) rfl (key64 hw)
    simp only [RV, Option.some.injEq, Prod.mk.injEq, (h3 _ hp).1] at hv
    have e := hv.1
    simp only [DataW.held.injEq] at e
    rw [hrun, h2 d]
    simp [hm, e]
  | false =>
    obtain ⟨v, ps, hrun, hv⟩ := h1.lookup law64 ht (zeroCh w) (zd := .held (.agg #[.int .i64 0, .slice none 0 0])) (zp := []) rfl (key64 hw)
    simp only [RV, Option.some.injEq, Prod.mk.injEq, (h3 _ hp).1] at hv
    have e := hv.1
    simp only [DataW.held.injEq] at e
    rw [hrun]
    simp [e]
theorem Holds.no {w : World} {b N : Nat} {L : List Ch} {d : Int} {T : Nat} (h : Holds w b N L T) (hp : d ∉ L.map Prod.fst) (hw : (Lit.int .i64 d).wf = true) (t : TypeId) (ht : Tryz.prog.underlying t = some (.map 2 65)) :
    (Instr.lookup t (.map (some b)) (.int .i64 d) true).run Tryz.prog w = .ok (.tuple #[.agg #[.int .i64 0, .slice none 0 0], .bool false]) w := by
  obtain ⟨Dt, A, C, h1, h2, h3, h4, h5⟩ := h
  obtain ⟨v, ps, hrun, hv⟩ := h1.look_ok law64 ht (zeroCh w) (zd := .held (.agg #[.int .i64 0, .slice none 0 0])) (zp := []) rfl (key64 hw)
  have hh : has Dt (.int .i64 d) = false := by rw [h2 d]; simpa using hp
  rw [atKey_of_not_has hh] at hv
  simp only [RV, Option.some.injEq, Prod.mk.injEq] at hv
  have e := hv.1
  simp only [DataW.held.injEq] at e
  rw [hrun, hh, e]

theorem wpList_look {P : Program} {w : World} {ops : Array Oper} {rest : List Oper} {o : Oper} {a : Act} {Q : Exit → Act → World → Prop} (hg : o.guard = none) (m x : Operand) (t : TypeId) (c : Bool) (hop : o.op = Op.lookup t m x c)
    (vm vx v : Value) (hm : a.eval m = vm) (hx : a.eval x = vx) (hrun : (Instr.lookup t vm vx c).run P w = .ok v w) (h : wpList P ops Q rest (a.put o.dst v) w) : wpList P ops Q (o :: rest) a w := by
  refine wpList_plain hg fun K' hK' => ?_
  unfold Oper.wp
  simp [execOp, hop, hm, hx, hrun, Result.andThen]
  exact hK' _ _ h

theorem wpList_append_at {P : Program} {wr : World} {news : Array Value} {ops : Array Oper} {rest : List Oper} {o : Oper} {a : Act} {Q : Exit → Act → World → Prop} (hgd : o.guard = none) (s x : Operand) (t : TypeId)
    (ho : o.op = .call { callee := .builtin .append, args := #[s, x], argTypes := #[t, t] })
    (base : Nat) (e : TypeId) (i : TypeInfo) (z : Value) (size bytes : Nat) (ht : P.underlying t = some (.slice e)) (hi : P.info? e = some i) (hz : i.zero = some z)
    (hsize : i.size = size) (hby : i.bytes = bytes) (hzs : z.cells.size = size) (hsz : 0 < size)
    (v : Value) (n : Nat) (xs : List Value) (hs : a.eval s = v) (hown : wr.ownsRow base e size v n xs) (H : Nat) (hH : wr.heap.size = H)
    (hx : a.eval x = .slice (some ⟨H, 0, none⟩) 1 1) (hl : news.size = size) (h1 : ∀ u ∈ news.toList, u.oneCell' = true)
    (h63 : n + 1 ≤ maxLen) (hbytes : (n + 1) * bytes ≤ 140737488355328) (hbase : base ≤ wr.heap.size)
    (h : ∀ v' w', w'.ownsRow base e size v' (n + 1) (xs ++ news.toList) → Kept (fun b => v.ownBlock = some b) wr w' → wpList P ops Q rest (a.put o.dst v') w') :
    wpList P ops Q (o :: rest) a (wr.alloc (.cells news e)) := by
  subst hH
  exact wpList_append_one hgd s x t ho base e i z size bytes ht hi hz hsize hby hzs hsz v n xs hs hown hx hl h1 h63 hbytes hbase h

end Go.Proofs.YtejfcapocikjmaaGreatDoor

