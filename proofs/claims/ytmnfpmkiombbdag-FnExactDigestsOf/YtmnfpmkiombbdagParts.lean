/-
  Contracts of the laws' helpers on lists of byte slices.
-/
import Derived.Test.YtmnfpmkiombbdagCut
namespace Go.Proofs.Ytmnfpmkiombbdag
open Go.RowKit
set_option linter.unusedVariables false

/-- The slice at address a (n elements) reads as n byte slices, slice i reading as P i. -/
def Rd2 (w : World) (a : Option Addr) (P : Nat → List Int) (n : Nat) : Prop :=
  0 < n → ∃ (b off : Nat) (A : Nat → Option Addr) (C : Nat → Nat), a = some ⟨b, off, none⟩ ∧ b < w.heap.size ∧ ∀ i, i < n → w.cell? ⟨b, off + i, none⟩ = some (.slice (A i) (P i).length (C i)) ∧ Reads .u8 w (A i) (P i)

theorem Rd2.below {w w' : World} {a : Option Addr} {P : Nat → List Int} {n : Nat} (h : Rd2 w a P n) (hk : Below w.heap.size w w') : Rd2 w' a P n := by
  intro hn
  obtain ⟨b, off, A, C, e, hb, hc⟩ := h hn
  exact ⟨b, off, A, C, e, Nat.lt_of_lt_of_le hb hk.size, fun i hi => ⟨(hk.cell (p := ⟨b, off + i, none⟩) hb).trans (hc i hi).1, (hc i hi).2.below hk⟩⟩

theorem reads_of_ownsRow {w : World} {B : Nat} {e : TypeId} {k : IntKind} {g n c : Nat} {zs : List Int} (h : w.ownsRow B e 1 (.slice (some ⟨g, 0, none⟩) n c) n (zs.map (Value.int k))) (hn : n = zs.length) : Own k w (some ⟨g, 0, none⟩) zs := by
  intro hz
  have h0 : 0 < n := by rw [hn]; exact List.length_pos_iff.2 hz
  refine ⟨g, 0, rfl, (h.lt g rfl).2, fun i hi => ⟨?_, h.frozenAt _⟩⟩
  rw [Nat.zero_add, h.cellAt i (by omega)]
  simp [List.getD_eq_getElem?_getD, hi]

theorem Grow2.shape {B : Nat} {w : World} {v : Value} {P : Nat → List Int} {j : Nat} (h : Grow2 B w v P j) : ∃ a c, v = .slice a j c := by
  obtain ⟨A, C, h1, h2, h3⟩ := h
  exact ownsRow_shape h1

theorem Grow2.rd {B : Nat} {w : World} {a : Option Addr} {c : Nat} {P : Nat → List Int} {n : Nat} (h : Grow2 B w (.slice a n c) P n) : Rd2 w a P n := by
  intro hn
  obtain ⟨A, C, h1, h2, h3⟩ := h
  rcases h1.2 with ⟨h', h0⟩ | ⟨g, cap, cur, h', hb, hh, hnc, hcm, hcs, htake⟩
  · omega
  · simp only [Value.slice.injEq, true_and] at h'
    obtain ⟨rfl, rfl⟩ := h'
    refine ⟨g, 0, fun i => some ⟨A i, 0, none⟩, C, rfl, (h1.lt g rfl).2, fun i hi => ⟨?_, (reads_of_ownsRow (h2 i hi) rfl).reads⟩⟩
    rw [Nat.zero_add, h1.cellAt i (by omega)]
    simp [hi]

theorem eqByteS_same (a b : Option Addr) (ca cb : Nat) (xs : List Int) (w : World) (ha : Reads .u8 w a xs) (hb : Reads .u8 w b xs) (hl : xs.length ≤ 1048576) :
    Calls Try.prog 14 #[.slice a xs.length ca, .slice b xs.length cb] w fun e w' => e = .returned (.bool true) ∧ ∃ n, w' = w.drewN n := by
  have := eqByteS_any a b ca cb xs xs w ha hb hl hl
  have e : (xs == xs) = true := by simp
  rwa [e] at this

theorem Reads.drewN {k : IntKind} {w : World} {a : Option Addr} {zs : List Int} (h : Reads k w a zs) (n : Nat) : Reads k (w.drewN n) a zs := h

set_option maxHeartbeats 400000 in
theorem eqByteSS_same (a b : Option Addr) (ca cb n : Nat) (P : Nat → List Int) (w : World) (ha : Rd2 w a P n) (hb : Rd2 w b P n) (hl : n ≤ 1048576) (hP : ∀ i, i < n → (P i).length ≤ 1048576) :
    Calls Try.prog 32 #[.slice a n ca, .slice b n cb] w fun e w' => e = .returned (.bool true) ∧ ∃ m, w' = w.drewN m := by
  have hne : ((n : Int) != (n : Int)) = false := by simp
  go_enter Try.func32, Try.ntmps32
  go_wp2
  go_loopw [5] (fun i wr => ∃ k : Nat, k ≤ n ∧ i = .int .i64 k ∧ ∃ m, wr = w.drewN m) (fun i _ => n - (intOf i).toNat)
  case atStart => exact ⟨0, Nat.zero_le _, rfl, 0, rfl⟩
  case round =>
    obtain ⟨k, hk, rfl, hwr⟩ := hrel
    have HW := hide hwr
    clear hwr
    by_cases hlt : k < n
    · obtain ⟨b1, o1, A1, C1, rfl, hb1, hc1⟩ := ha (by omega)
      obtain ⟨b2, o2, A2, C2, rfl, hb2, hc2⟩ := hb (by omega)
      obtain ⟨c1, r1⟩ := hc1 k hlt
      obtain ⟨c2, r2⟩ := hc2 k hlt
      have hp := hP k hlt
      generalize A1 k = a1 at c1 r1
      generalize A2 k = a2 at c2 r2
      generalize C1 k = d1 at c1
      generalize C2 k = d2 at c2
      generalize P k = xs at c1 r1 c2 r2 hp
      have e1 : wr.cell? ⟨b1, o1 + k, none⟩ = some (.slice a1 xs.length d1) := by obtain ⟨m, rfl⟩ := HW.out; exact c1
      have e2 : wr.cell? ⟨b2, o2 + k, none⟩ = some (.slice a2 xs.length d2) := by obtain ⟨m, rfl⟩ := HW.out; exact c2
      have R1 : Hid (Reads .u8 wr a1 xs) := by obtain ⟨m, rfl⟩ := HW.out; exact r1.drewN m
      have R2 : Hid (Reads .u8 wr a2 xs) := by obtain ⟨m, rfl⟩ := HW.out; exact r2.drewN m
      have HP := hide hP
      clear hc1 hc2 ha hb r1 r2 hP c1 c2
      go_wp2
      go_quiet ((go_at_call 14; exact Calls.quiet_of (eqByteS_same _ _ _ _ xs _ (R1.out.drewN _) (R2.out.drewN _) hp)))
      go_wp2
      go_roundw
      case rel => exact ⟨k + 1, by omega, by go_num, by obtain ⟨m, rfl⟩ := HW.out; exact ⟨_, World.drewN_drewN _ _ _⟩⟩
      case measure => simp [intOf]; omega
    · go_wp2
      go_ret
      exact ⟨rfl, HW.out⟩

/-- The same, the slices' blocks below T. -/
def G2 (B T : Nat) (w : World) (v : Value) (P : Nat → List Int) (n : Nat) : Prop :=
  ∃ A C : Nat → Nat, w.ownsRow B 23 1 v n ((List.range n).map fun i => .slice (some ⟨A i, 0, none⟩) (P i).length (C i)) ∧
    (∀ i, i < n → w.ownsRow B 5 1 (.slice (some ⟨A i, 0, none⟩) (P i).length (C i)) (P i).length ((P i).map (Value.int .u8))) ∧
    (∀ i i', i < n → i' < n → A i = A i' → i = i') ∧ (∀ i, i < n → A i < T) ∧ ∀ b, v.ownBlock = some b → b < T
theorem Grow2.fit {B : Nat} {w : World} {v : Value} {P : Nat → List Int} {n : Nat} (h : Grow2 B w v P n) : G2 B w.heap.size w v P n := by
  obtain ⟨A, C, h1, h2, h3⟩ := h
  exact ⟨A, C, h1, h2, h3, fun i hi => ((h2 i hi).lt (A i) rfl).2, fun b hb => (h1.lt b hb).2⟩
theorem G2.grow {B T : Nat} {w : World} {v : Value} {P : Nat → List Int} {n : Nat} (h : G2 B T w v P n) : Grow2 B w v P n := by
  obtain ⟨A, C, h1, h2, h3, _⟩ := h
  exact ⟨A, C, h1, h2, h3⟩
theorem G2.kept {S : Nat → Prop} {B T : Nat} {w w' : World} {v : Value} {P : Nat → List Int} {n : Nat} (h : G2 B T w v P n) (hk : Kept S w w') (hS : ∀ b, B ≤ b → b < T → ¬ S b) : G2 B T w' v P n := by
  obtain ⟨A, C, h1, h2, h3, h4, h5⟩ := h
  exact ⟨A, C, ownsRow_kept h1 hk (fun b hb => hS b (h1.lt b hb).1 (h5 b hb)), fun i hi => ownsRow_kept (h2 i hi) hk (fun b hb => hS b ((h2 i hi).lt b hb).1 (by simp only [Value.ownBlock, Option.some.injEq] at hb; subst hb; exact h4 i hi)), h3, h4, h5⟩
theorem G2.below {B T : Nat} {w w' : World} {v : Value} {P : Nat → List Int} {n : Nat} (h : G2 B T w v P n) (hk : Below w.heap.size w w') : G2 B T w' v P n :=
  h.kept (S := fun _ => False) (Kept.of_below hk) (fun _ _ _ => id)

/-- How many cells stand ahead of slice i. -/
def ahead (P : Nat → List Int) : Nat → Nat
  | 0 => 0
  | i + 1 => ahead P i + (P i).length
/-- What is written into slice i. -/
def marked (k : Int) (P : Nat → List Int) (i : Nat) : List Int := marks (k + ahead P i) (P i).length

theorem ahead_le (P : Nat → List Int) {i j : Nat} (h : i ≤ j) : ahead P i ≤ ahead P j := by
  induction j with
  | zero => have : i = 0 := by omega
            subst this; exact Nat.le_refl _
  | succ j ih =>
    by_cases e : i = j + 1
    · subst e; exact Nat.le_refl _
    · have := ih (by omega)
      simp only [ahead]; omega

theorem G2.congr {B T : Nat} {w : World} {v : Value} {P Q : Nat → List Int} {n : Nat} (h : G2 B T w v P n) (hQ : ∀ i, i < n → Q i = P i) : G2 B T w v Q n := by
  obtain ⟨A, C, h1, h2, h3, h45⟩ := h
  refine ⟨A, C, ?_, fun i hi => by rw [hQ i hi]; exact h2 i hi, h3, h45⟩
  have e : (List.range n).map (fun i => Value.slice (some ⟨A i, 0, none⟩) (Q i).length (C i)) = (List.range n).map (fun i => Value.slice (some ⟨A i, 0, none⟩) (P i).length (C i)) := by
    apply List.map_congr_left
    intro i hi
    rw [hQ i (List.mem_range.1 hi)]
  rw [e]; exact h1

/-- One slice is marked: the others stay. -/
theorem G2.mark {B T : Nat} {w w' : World} {v : Value} {P : Nat → List Int} {n j : Nat} {A C : Nat → Nat} {ys : List Int}
    (h1 : w.ownsRow B 23 1 v n ((List.range n).map fun i => .slice (some ⟨A i, 0, none⟩) (P i).length (C i)))
    (h2 : ∀ i, i < n → w.ownsRow B 5 1 (.slice (some ⟨A i, 0, none⟩) (P i).length (C i)) (P i).length ((P i).map (Value.int .u8)))
    (h3 : ∀ i i', i < n → i' < n → A i = A i' → i = i') (h45 : (∀ i, i < n → A i < T) ∧ ∀ b, v.ownBlock = some b → b < T) (hj : j < n) (hl : ys.length = (P j).length)
    (ho : Own .u8 w' (some ⟨A j, 0, none⟩) ys) (hk : Kept (blkOf (some ⟨A j, 0, none⟩)) w w') (hs : SameShape w w') (Q : Nat → List Int) (hQ : ∀ i, i < n → Q i = if i = j then ys else P i) :
    G2 B T w' v Q n := by
  have hlen : ∀ i, i < n → (Q i).length = (P i).length := fun i hi => by
    rw [hQ i hi]; by_cases e : i = j
    · subst e; rw [if_pos rfl]; exact hl
    · rw [if_neg e]
  refine ⟨A, C, ?_, ?_, h3, h45⟩
  · have e : (List.range n).map (fun i => Value.slice (some ⟨A i, 0, none⟩) (Q i).length (C i)) = (List.range n).map (fun i => Value.slice (some ⟨A i, 0, none⟩) (P i).length (C i)) := by
      apply List.map_congr_left
      intro i hi
      rw [hlen i (List.mem_range.1 hi)]
    rw [e]
    exact ownsRow_kept h1 hk (fun b hb hS => ownsRow_apart h1 (h2 j hj) (by decide) hb (by simpa [blkOf, Value.ownBlock] using hS))
  · intro i hi
    by_cases e : i = j
    · subst e
      rw [hQ i hi, if_pos rfl, hl]
      refine own_back (h2 i hi) hs (by simp [hl]) (fun t ht => ?_)
      obtain ⟨b, off, e1, hb, hc⟩ := ho (by intro e; rw [e] at hl; simp at hl; omega)
      simp only [Option.some.injEq, Addr.mk.injEq, and_true] at e1
      obtain ⟨rfl, rfl⟩ := e1
      have := (hc t (by omega)).1
      rw [Nat.zero_add] at this
      rw [this]
      have ht2 : t < ys.length := by omega
      simp [List.getD_eq_getElem?_getD, ht2]
    · rw [hQ i hi, if_neg e]
      exact ownsRow_kept (h2 i hi) hk (fun b hb hS => by
        simp only [Value.ownBlock, Option.some.injEq] at hb
        simp only [blkOf, Option.map_some, Option.some.injEq] at hS
        exact e (h3 i j hi hj (by omega)))

set_option maxHeartbeats 400000 in
theorem markByteSS_any (B T : Nat) (a : Option Addr) (c n : Nat) (P : Nat → List Int) (k : Int) (w : World) (h : G2 B T w (.slice a n c) P n) (hk0 : 0 ≤ k) (hk1 : k ≤ 1048576) (hn : n ≤ 1048576) (hl : ahead P n ≤ 1048576) :
    Calls Try.prog 33 #[.slice a n c, .int .i64 k] w fun e w' => e = .returned (.int .i64 (k + ahead P n)) ∧ G2 B T w' (.slice a n c) (marked k P) n ∧ Kept (fun b => B ≤ b ∧ b < T) w w' := by
  go_enter Try.func33, Try.ntmps33
  go_wp2
  go_loopw [1, 5] (fun q i wr => ∃ j : Nat, j ≤ n ∧ i = .int .i64 j ∧ q = .int .i64 (k + ahead P j) ∧ G2 B T wr (.slice a n c) (fun t => if t < j then marked k P t else P t) n ∧ Kept (fun b => B ≤ b ∧ b < T) w wr) (fun _ i _ => n - (intOf i).toNat)
  case atStart => exact ⟨0, Nat.zero_le _, rfl, by simp [ahead], by simpa using h, Kept.refl _ _⟩
  case round =>
    obtain ⟨j, hj, rfl, rfl, hG, hkept⟩ := hrel
    have HK := hide hkept
    have HH := hide h
    clear hkept h
    by_cases hlt : j < n
    · have hle := ahead_le P (i := j + 1) (j := n) (by omega)
      simp only [ahead] at hle
      obtain ⟨A, C, h1, h2, h3, h45⟩ := hG
      have hlen : (P j).length ≤ 1048576 := by omega
      obtain ⟨g, cap, e0, hg⟩ : ∃ g cap, Value.slice a n c = .slice (some ⟨g, 0, none⟩) n cap ∧ g < wr.heap.size := by
        rcases h1.2 with ⟨_, h0⟩ | ⟨g, cap, cur, h', hb, hh, _⟩
        · omega
        · exact ⟨g, cap, h', (Array.getElem?_eq_some_iff.1 hh).1⟩
      simp only [Value.slice.injEq, true_and] at e0
      obtain ⟨rfl, rfl⟩ := e0
      have hc0 : wr.cell? ⟨g, j, none⟩ = some (.slice (some ⟨A j, 0, none⟩) (P j).length (C j)) := by
        rw [h1.cellAt j (by omega)]
        simp [hlt]
      have ho : Own .u8 wr (some ⟨A j, 0, none⟩) (P j) := by
        have := h2 j hlt
        simp only [Nat.lt_irrefl, if_false] at this
        exact reads_of_ownsRow this rfl
      have H1 := hide h1
      have H2 := hide h2
      have H3 := hide h3
      have H45 := hide h45
      have HO := hide ho
      clear h1 h2 h3 h45 ho
      go_wp2_with (go_at_call 15; refine (markByteS_any _ _ (P j) _ _ HO.out (by omega) (by omega) (by omega)).mono ?_; rintro e w1 ⟨rfl, ho1, hk1', hs1⟩; have HO1 := hide ho1; have HK1 := hide hk1'; have HS1 := hide hs1; clear ho1 hk1' hs1)
      go_roundw
      case rel =>
        refine ⟨j + 1, by omega, by go_num, by simp only [ahead]; go_num, ?_, HK.out.trans (HK1.out.mono (fun b _ hS => ?_))⟩
        · refine G2.mark H1.out H2.out H3.out H45.out hlt (by simp [marks_length]) HO1.out HK1.out HS1.out _ (fun i hi => ?_)
          by_cases e : i = j
          · subst e; rw [if_pos (by omega), if_pos rfl]; rfl
          · rw [if_neg e]
            by_cases e2 : i < j
            · rw [if_pos (by omega), if_pos e2]
            · rw [if_neg (by omega), if_neg e2]
        · have hAj : A j = b := by simpa [blkOf] using hS
          have h6 := ((H2.out j hlt).lt (A j) rfl).1
          have h7 := H45.out.1 j hlt
          omega
      case measure => simp [intOf]; omega
    · have hje : j = n := by omega
      subst hje
      go_wp2
      go_ret
      exact ⟨rfl, hG.congr (fun i hi => by rw [if_pos hi]), HK.out⟩

set_option maxHeartbeats 400000 in
theorem heldByteSS_any (a : Option Addr) (c n : Nat) (P : Nat → List Int) (k : Int) (w : World) (h : Rd2 w a (marked k P) n) (hk0 : 0 ≤ k) (hk1 : k ≤ 1048576) (hn : n ≤ 1048576) (hl : ahead P n ≤ 1048576) :
    Calls Try.prog 34 #[.slice a n c, .int .i64 k] w fun e w' => e = .returned (.int .i64 (k + ahead P n)) ∧ w' = w := by
  go_enter Try.func34, Try.ntmps34
  go_wp2
  go_loop [1, 5] (fun q i => ∃ j : Nat, j ≤ n ∧ i = .int .i64 j ∧ q = .int .i64 (k + ahead P j)) (fun _ i => n - (intOf i).toNat)
  case atStart => exact ⟨0, Nat.zero_le _, rfl, by simp [ahead]⟩
  case round =>
    obtain ⟨j, hj, rfl, rfl⟩ := hrel
    by_cases hlt : j < n
    · have hle := ahead_le P (i := j + 1) (j := n) (by omega)
      simp only [ahead] at hle
      obtain ⟨b, off, A, C, rfl, hb, hc⟩ := h (by omega)
      obtain ⟨c1, r1⟩ := hc j hlt
      simp only [marked, marks_length] at c1
      unfold marked at r1
      generalize A j = a1 at c1 r1
      generalize C j = d1 at c1
      have R1 := hide r1
      clear hc h r1
      go_wp2_with (go_at_call 45; refine (heldByteS_any _ _ (P j).length _ _ R1.out (by omega) (by omega) (by omega)).mono ?_; rintro e w1 ⟨rfl, rfl⟩)
      go_round
      case rel => exact ⟨j + 1, by omega, by go_num, by simp only [ahead]; go_num⟩
      case measure => simp [intOf]; omega
    · have hje : j = n := by omega
      subst hje
      go_wp2
      go_ret
      exact ⟨rfl, rfl⟩

set_option maxHeartbeats 400000 in
theorem eqPartsResult_same (q : Int) (a b : Option Addr) (ca cb n : Nat) (P : Nat → List Int) (w : World) (ha : Rd2 w a P n) (hb : Rd2 w b P n) (hl : n ≤ 1048576) (hP : ∀ i, i < n → (P i).length ≤ 1048576) :
    Calls Try.prog 13 #[.agg #[.int .i64 q, .slice a n ca], .agg #[.int .i64 q, .slice b n cb]] w fun e w' => e = .returned (.bool true) ∧ Below w.heap.size w w' := by
  have HA := hide ha
  have HB := hide hb
  clear ha hb
  have B1 : Below w.heap.size w ((w.alloc (.cells #[.int .i64 q, .slice a n ca] 26)).alloc (.cells #[.int .i64 q, .slice b n cb] 26)) := ((Below.refl _ _).alloc (Nat.le_refl _) _).alloc (by simp) _
  have HBB := hide B1
  clear B1
  go_enter Try.func13, Try.ntmps13
  go_wp2_with fail
  refine (eqByteSS_same a b ca cb n P _ (HA.out.below HBB.out) (HB.out.below HBB.out) hl hP).mono ?_
  rintro e w1 ⟨rfl, m, rfl⟩
  go_wp2_with fail
  go_ret
  exact ⟨rfl, below_drewN HBB.out _⟩

set_option maxHeartbeats 400000 in
theorem markPartsResult_any (q : Int) (B T : Nat) (a : Option Addr) (c n : Nat) (P : Nat → List Int) (k : Int) (w : World) (h : G2 B T w (.slice a n c) P n) (hk0 : 0 ≤ k) (hk1 : k ≤ 1048576) (hn : n ≤ 1048576) (hl : ahead P n ≤ 1048576) :
    Calls Try.prog 16 #[.agg #[.int .i64 q, .slice a n c], .int .i64 k] w fun e w' => e = .returned (.int .i64 (k + ahead P n)) ∧ G2 B T w' (.slice a n c) (marked k P) n ∧ Kept (fun b => B ≤ b ∧ b < T) w w' := by
  have HG := hide h
  clear h
  go_enter Try.func16, Try.ntmps16
  go_wp2_with fail
  refine (markByteSS_any B T a c n P k _ (HG.out.below ((Below.refl _ _).alloc (Nat.le_refl _) _)) hk0 hk1 hn hl).mono ?_
  rintro e w1 ⟨rfl, hG1, hK1⟩
  have H1 := hide hG1
  have K1 := hide hK1
  clear hG1 hK1
  go_wp2_with fail
  go_ret
  exact ⟨rfl, H1.out, ((Kept.refl _ _).alloc _).trans K1.out⟩

set_option maxHeartbeats 400000 in
theorem heldPartsResult_any (q : Int) (a : Option Addr) (c n : Nat) (P : Nat → List Int) (k : Int) (w : World) (h : Rd2 w a (marked k P) n) (hk0 : 0 ≤ k) (hk1 : k ≤ 1048576) (hn : n ≤ 1048576) (hl : ahead P n ≤ 1048576) :
    Calls Try.prog 17 #[.agg #[.int .i64 q, .slice a n c], .int .i64 k] w fun e w' => e = .returned (.int .i64 (k + ahead P n)) ∧ Below w.heap.size w w' := by
  have HG := hide h
  clear h
  have hk2 : ¬ (k + (ahead P n : Int)) < 0 := by omega
  go_enter Try.func17, Try.ntmps17
  go_wp2_with fail
  refine (heldByteSS_any a c n P k _ (HG.out.below ((Below.refl _ _).alloc (Nat.le_refl _) _)) hk0 hk1 hn hl).mono ?_
  rintro e w1 ⟨rfl, rfl⟩
  go_wp2_with fail
  go_ret
  exact ⟨rfl, (Below.refl _ _).alloc (Nat.le_refl _) _⟩

end Go.Proofs.Ytmnfpmkiombbdag
