/-
  Contracts of the laws' marking helpers on lists of chunks.
-/
import Derived.Test.YtdebojhginiihahChunksRd
namespace Go.Proofs.Ytdebojhginiihah
open Go.RowKit
set_option linter.unusedVariables false

/-- f with x at j. -/
def upd {α : Type} (f : Nat → α) (j : Nat) (x : α) : Nat → α := fun t => if t = j then x else f t
theorem upd_same {α : Type} (f : Nat → α) (j : Nat) (x : α) : upd f j x j = x := by simp [upd]
theorem upd_other {α : Type} (f : Nat → α) (j : Nat) (x : α) {t : Nat} (h : t ≠ j) : upd f j x t = f t := by simp [upd, h]

theorem GC.congr {B T : Nat} {w : World} {v : Value} {D D' : Nat → Int} {P P' : Nat → List Int} {n : Nat} (h : GC B T w v D P n) (hD : ∀ i, i < n → D' i = D i) (hP : ∀ i, i < n → P' i = P i) : GC B T w v D' P' n := by
  obtain ⟨A, C, h1, h2, h3, h4, h5⟩ := h
  refine ⟨A, C, ?_, fun i hi => by rw [hP i hi]; exact h2 i hi, h3, h4, h5⟩
  rw [flat_congr (G := chCells D P A C) (fun i hi => by simp [chCells, hD i hi, hP i hi])]
  exact h1

/-- Chunk j is at hand: its two cells, its bytes, and the way back behind a store of its digest and a writing of its bytes. -/
theorem GC.open {B T : Nat} {w : World} {a : Option Addr} {c : Nat} {D : Nat → Int} {P : Nat → List Int} {n j : Nat} (h : GC B T w (.slice a n c) D P n) (hj : j < n) :
    ∃ (G : Nat) (x : Option Addr) (y : Nat), a = some ⟨G, 0, none⟩ ∧ B ≤ G ∧ G < T ∧ w.cell? ⟨G, j * 2, none⟩ = some (.int .i64 (D j)) ∧ w.cell? ⟨G, j * 2 + 1, none⟩ = some (.slice x (P j).length y) ∧
      w.frozen? ⟨G, j * 2, none⟩ = false ∧ w.frozen? ⟨G, j * 2 + 1, none⟩ = false ∧ Own .u8 w x (P j) ∧ (∀ b, blkOf x b → B ≤ b ∧ b < T ∧ b ≠ G) ∧
      ∀ (d : Int) (ys : List Int) (w2 : World), ys.length = (P j).length → Own .u8 w2 x ys → Kept (blkOf x) (w.setCell ⟨G, j * 2, none⟩ (.int .i64 d)) w2 → SameShape (w.setCell ⟨G, j * 2, none⟩ (.int .i64 d)) w2 →
        GC B T w2 (.slice a n c) (upd D j d) (upd P j ys) n := by
  obtain ⟨A, C, h1, h2, h3, h4, h5⟩ := h
  rcases h1.2 with ⟨_, h0⟩ | ⟨G, cap, cur, h', hb, hh, hnc, hcm, hcs, htake⟩
  · omega
  · simp only [Value.slice.injEq, true_and] at h'
    obtain ⟨rfl, rfl⟩ := h'
    have hf := fun r hr => flat_get (n := n) (k := 2) (F := chCells D P A C) (fun i _ => rfl) j r hj hr
    have hown : ∀ b, blkOf (A j) b → (Value.slice (A j) (P j).length (C j)).ownBlock = some b := fun b hb => by
      cases hA : A j with
      | none => rw [hA] at hb; simp [blkOf] at hb
      | some x => rw [hA] at hb; simpa [Value.ownBlock, blkOf] using hb
    have hne : ∀ b, blkOf (A j) b → b ≠ G := fun b hb e => ownsRow_apart h1 (h2 j hj) (by decide) (by subst e; rfl) (hown b hb)
    refine ⟨G, A j, C j, rfl, hb, h5 G rfl, ?_, ?_, h1.frozenAt _, h1.frozenAt _, ownsRow_own (h2 j hj) rfl, fun b hb => ⟨((h2 j hj).lt b (hown b hb)).1, h4 j b hj hb, hne b hb⟩, ?_⟩
    · rw [h1.cellAt (j * 2) (by omega)]
      have := hf 0 (by decide)
      rw [Nat.add_zero] at this
      rw [this]; rfl
    · rw [h1.cellAt (j * 2 + 1) (by omega), hf 1 (by decide)]; rfl
    · intro d ys w2 hl ho hk hs
      have hlen : ∀ i, (upd P j ys i).length = (P i).length := fun i => by
        by_cases e : i = j
        · subst e; rw [upd_same]; exact hl
        · rw [upd_other _ _ _ e]
      have s1 := (h1.stored (j * 2) (.int .i64 d)).1
      have e := flat_set (n := n) (k := 2) (F := chCells D P A C) (fun i _ => rfl) j 0 hj (by decide) (.int .i64 d)
      rw [Nat.add_zero] at e
      rw [e] at s1
      have hk1 : Kept (fun b => b = G) w (w.setCell ⟨G, j * 2, none⟩ (.int .i64 d)) := Kept.setCell (S := fun b => b = G) (p := ⟨G, j * 2, none⟩) (Kept.refl _ _) (fun _ => rfl) _
      refine ⟨A, C, ?_, ?_, h3, h4, h5⟩
      · rw [flat_congr (G := fun t => if t = j then (chCells D P A C t).set 0 (.int .i64 d) else chCells D P A C t) (fun i hi => ?_)]
        · exact ownsRow_kept s1 hk (fun b hb hS => hne b hS (by simpa [Value.ownBlock, eq_comm] using hb))
        · by_cases e : i = j
          · subst e; simp [chCells, upd_same, hl]
          · simp [chCells, upd_other _ _ _ e, e]
      · intro i hi
        rw [hlen i]
        have r1 : (w.setCell ⟨G, j * 2, none⟩ (.int .i64 d)).ownsRow B 5 1 (.slice (A i) (P i).length (C i)) (P i).length ((P i).map (Value.int .u8)) :=
          ownsRow_kept (h2 i hi) hk1 (fun b hb e => ownsRow_apart h1 (h2 i hi) (by decide) (by subst e; rfl) hb)
        by_cases e : i = j
        · subst e
          rw [upd_same]
          rcases (h2 i hi).2 with ⟨h', h0⟩ | ⟨g, cap', cur', h', _⟩
          · simp only [Value.slice.injEq] at h'
            have e1 : ys = [] := List.eq_nil_of_length_eq_zero (by omega)
            subst e1
            rw [h'.1, h'.2.2, h0]
            exact World.ownsRow_nil _ _ _ _
          · simp only [Value.slice.injEq, true_and] at h'
            obtain ⟨hA, hC⟩ := h'
            rw [hA] at r1 ho ⊢
            refine own_back r1 hs (by simp [hl]) (fun t ht => ?_)
            obtain ⟨b, off, e1, hb, hc⟩ := ho (by intro e; rw [e] at hl; simp at hl; omega)
            simp only [Option.some.injEq, Addr.mk.injEq, and_true] at e1
            obtain ⟨rfl, rfl⟩ := e1
            have := (hc t (by omega)).1
            rw [Nat.zero_add] at this
            rw [this]
            have ht2 : t < ys.length := by omega
            simp [List.getD_eq_getElem?_getD, ht2]
        · rw [upd_other _ _ _ e]
          refine ownsRow_kept r1 hk (fun b hb hS => e (h3 i j b hi hj ?_ hS))
          cases hA : A i with
          | none => rw [hA] at hb; simp [Value.ownBlock] at hb
          | some x => rw [hA] at hb; simpa [Value.ownBlock] using hb

/-- What is written into chunk i. -/
def markD (k : Int) (P : Nat → List Int) (i : Nat) : Int := k + i + ahead P i
def markP (k : Int) (P : Nat → List Int) (i : Nat) : List Int := marks (k + i + ahead P i + 1) (P i).length

set_option maxHeartbeats 800000 in
theorem markChunkS_any (B T : Nat) (a : Option Addr) (c n : Nat) (D : Nat → Int) (P : Nat → List Int) (k : Int) (w : World) (h : GC B T w (.slice a n c) D P n) (hk0 : 0 ≤ k) (hk1 : k ≤ 1048576) (hn : n ≤ 1048576) (hl : ahead P n ≤ 1048576) :
    Calls Try.prog 17 #[.slice a n c, .int .i64 k] w fun e w' => e = .returned (.int .i64 (k + n + ahead P n)) ∧ GC B T w' (.slice a n c) (markD k P) (markP k P) n ∧ Kept (fun b => B ≤ b ∧ b < T) w w' := by
  have HH := hide h
  clear h
  go_enter Try.func17, Try.ntmps17
  go_wp2
  go_loopw [1, 5] (fun q i wr => ∃ j : Nat, j ≤ n ∧ i = .int .i64 j ∧ q = .int .i64 (k + j + ahead P j) ∧ GC B T wr (.slice a n c) (fun t => if t < j then markD k P t else D t) (fun t => if t < j then markP k P t else P t) n ∧ Kept (fun b => B ≤ b ∧ b < T) w wr) (fun _ i _ => n - (intOf i).toNat)
  case atStart => exact ⟨0, Nat.zero_le _, rfl, by simp [ahead], by simpa using HH.out, Kept.refl _ _⟩
  case round =>
    obtain ⟨j, hj, rfl, rfl, hG, hkept⟩ := hrel
    have HK := hide hkept
    clear hkept
    by_cases hlt : j < n
    · have hle := ahead_le P (i := j + 1) (j := n) (by omega)
      have hsu : ahead P (j + 1) = ahead P j + (P j).length := rfl
      have HSu := hide hsu
      simp only [ahead] at hle
      clear hsu
      obtain ⟨G, x, y, rfl, hg1, hg2, c0, c1, f0, f1, ho, hx, hback⟩ := hG.open hlt
      simp only [Nat.lt_irrefl, if_false] at c0 c1 ho hback
      have hlen : (P j).length ≤ 1048576 := by omega
      have HG := hide hG
      have HO := hide ho
      have HX := hide hx
      have HBK := hide hback
      clear hG ho hx hback
      generalize hxs : P j = xs at *
      generalize D j = dd at c0
      generalize hah : ahead P j = A0 at *
      have HXS := hide (And.intro hxs hah)
      clear hxs hah
      have c1' : ∀ u, (wr.setCell ⟨G, j * 2, none⟩ u).cell? ⟨G, j * 2 + 1, none⟩ = some (.slice x xs.length y) := fun u => (cell_set_other (by intro e; have := congrArg Addr.off e; simp at this)).trans c1
      have OK : Hid (∀ u, Own .u8 (wr.setCell ⟨G, j * 2, none⟩ u) x xs) := fun u => HO.out.kept (Kept.setCell (S := fun b => b = G) (p := ⟨G, j * 2, none⟩) (Kept.refl _ _) (fun _ => rfl) u) (fun b hb e => (HX.out b hb).2.2 e)
      go_wp2_with (go_at_call 18; refine (markByteS_any _ _ xs _ _ (OK.out _) (by omega) (by omega) (by omega)).mono ?_; rintro e w1 ⟨rfl, ho1, hk1', hs1⟩; have HO1 := hide ho1; have HK1 := hide hk1'; have HS1 := hide hs1; clear ho1 hk1' hs1)
      go_roundw
      case rel =>
        refine ⟨j + 1, by omega, by go_num, by rw [HSu.out]; go_num, ?_, ?_⟩
        · refine (HBK.out _ _ _ (by simp [marks_length]) HO1.out HK1.out HS1.out).congr (fun i hi => ?_) (fun i hi => ?_)
          · by_cases e : i = j
            · subst e; rw [if_pos (by omega), upd_same]; simp [markD, HXS.out.2]
            · rw [upd_other _ _ _ e]
              by_cases e2 : i < j
              · rw [if_pos (by omega), if_pos e2]
              · rw [if_neg (by omega), if_neg e2]
          · by_cases e : i = j
            · subst e; rw [if_pos (by omega), upd_same]; simp only [markP, HXS.out.1, HXS.out.2]
            · rw [upd_other _ _ _ e]
              by_cases e2 : i < j
              · rw [if_pos (by omega), if_pos e2]
              · rw [if_neg (by omega), if_neg e2]
        · refine HK.out.trans (Kept.trans (Kept.setCell (p := ⟨G, j * 2, none⟩) (Kept.refl _ _) (fun _ => ⟨hg1, hg2⟩) _) (HK1.out.mono (fun b _ hS => ?_)))
          exact ⟨(HX.out b hS).1, (HX.out b hS).2.1⟩
      case measure => simp [intOf]; omega
    · have hje : j = n := by omega
      subst hje
      go_wp2
      go_ret
      exact ⟨rfl, hG.congr (fun i hi => by rw [if_pos hi]) (fun i hi => by rw [if_pos hi]), HK.out⟩

set_option maxHeartbeats 800000 in
theorem heldChunkS_any (a : Option Addr) (c n : Nat) (P : Nat → List Int) (k : Int) (w : World) (h : RdC w a (markD k P) (markP k P) n) (hk0 : 0 ≤ k) (hk1 : k ≤ 1048576) (hn : n ≤ 1048576) (hl : ahead P n ≤ 1048576) :
    Calls Try.prog 51 #[.slice a n c, .int .i64 k] w fun e w' => e = .returned (.int .i64 (k + n + ahead P n)) ∧ Below w.heap.size w w' := by
  have HH := hide h
  clear h
  go_enter Try.func51, Try.ntmps51
  go_wp2
  go_loopw [1, 5] (fun q i wr => ∃ j : Nat, j ≤ n ∧ i = .int .i64 j ∧ q = .int .i64 (k + j + ahead P j) ∧ Below w.heap.size w wr) (fun _ i _ => n - (intOf i).toNat)
  case atStart => exact ⟨0, Nat.zero_le _, rfl, by simp [ahead], Below.refl _ _⟩
  case round =>
    obtain ⟨j, hj, rfl, rfl, hbel⟩ := hrel
    have HW := hide hbel
    clear hbel
    by_cases hlt : j < n
    · have hle := ahead_le P (i := j + 1) (j := n) (by omega)
      have hsu : ahead P (j + 1) = ahead P j + (P j).length := rfl
      have HSu := hide hsu
      simp only [ahead] at hle
      clear hsu
      obtain ⟨b, off, A, C, rfl, hb, hc⟩ := (HH.out.below HW.out) (by omega)
      obtain ⟨c0, c1, r1⟩ := hc j hlt
      simp only [markP, markD, marks_length] at c0 c1
      unfold markP at r1
      generalize A j = a1 at c1 r1
      generalize C j = d1 at c1
      generalize (P j).length = pl at *
      generalize ahead P j = A0 at *
      have R1 := hide r1
      clear hc r1
      go_wp2_with (first | (go_at_call 54; refine (heldByteS_any _ _ pl _ _ R1.out (by omega) (by omega) (by omega)).mono ?_; rintro e w1 ⟨rfl, rfl⟩))
      go_roundw
      case rel => exact ⟨j + 1, by omega, by go_num, by rw [HSu.out]; go_num, HW.out⟩
      case measure => simp [intOf]; omega
    · have hje : j = n := by omega
      subst hje
      go_wp2
      go_ret
      exact ⟨rfl, HW.out⟩

end Go.Proofs.Ytdebojhginiihah
