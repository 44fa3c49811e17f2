/-
  Contracts of the model's and the program's DigestsOf.
-/
import Derived.Test.YtlbccbikepkfiaaGreatDoorDigest
import Derived.Test.YtlbccbikepkfiaaGreatDoorParts
import Derived.Test.YtlbccbikepkfiaaGreatDoorIntsR
namespace Go.Proofs.YtlbccbikepkfiaaGreatDoor
open Go.RowKit
set_option linter.unusedVariables false

/-- The digests of the first j pieces. -/
def digs (zs : List Int) (j : Nat) : List Int := (List.range j).map fun i => digest (piece zs i)
theorem digs_length (zs : List Int) (j : Nat) : (digs zs j).length = j := by simp [digs]
theorem digs_succ (zs : List Int) (j : Nat) : (digs zs (j + 1)).map (Value.int .i64) = (digs zs j).map (Value.int .i64) ++ [.int .i64 (digest (piece zs j))] := by
  simp [digs, List.range_succ]
theorem Grow2.kept_own {B B' : Nat} {w w' : World} {v v' : Value} {P : Nat → List Int} {n n' size : Nat} {e : TypeId} {xs : List Value} (h : Grow2 B w v P n) (ho : w.ownsRow B' e size v' n' xs) (h1 : e ≠ 22) (h2 : e ≠ 5) (hk : Kept (fun b => v'.ownBlock = some b) w w') : Grow2 B w' v P n := by
  obtain ⟨A, C, k1, k2, k3⟩ := h
  exact ⟨A, C, ownsRow_kept k1 hk (fun b hb hS => ownsRow_apart ho k1 h1 hS hb), fun i hi => ownsRow_kept (k2 i hi) hk (fun b hb hS => ownsRow_apart ho (k2 i hi) h2 hS hb), k3⟩

set_option maxHeartbeats 800000 in
theorem l1Digests_any (a : Option Addr) (cap : Nat) (zs : List Int) (w : World) (h : Reads .u8 w a zs) (hu : U8 zs) (hcap : zs.length ≤ cap) (hl : zs.length ≤ 24) :
    Calls Tryz.prog 106 #[.slice a zs.length cap] w fun e w' => ∃ v, e = .returned v ∧ w'.ownsRow w.heap.size 2 1 v (cut zs).length ((digs zs (cut zs).length).map (Value.int .i64)) ∧ Below w.heap.size w w' := by
  obtain ⟨i1, ki, kz0, kz1, kz2⟩ := info_parts Tryz.infoI64
  have HR := hide h
  have HU := hide hu
  clear h hu
  have hcl : (cut zs).length ≤ 3 := by rw [cut_length]; omega
  go_enter Tryz.func106, Tryz.ntmps106
  go_wp2_with fail
  refine (l1Cut_any a cap zs _ (HR.out.below (below_alloc _ _)) hcap (by omega)).mono ?_
  rintro e w1 ⟨pv, rfl, hG, hb1⟩
  obtain ⟨pa, pc, rfl⟩ := hG.shape
  generalize hN : (cut zs).length = N at *
  have HN := hide hN
  clear hN
  have O1 := hide (ownsRow_below (World.ownsRow_made (base := w.heap.size) (e := 2) (size := 1) w #[] 0 (Nat.le_refl _) (Nat.zero_le _) rfl) hb1)
  have HG := hide (hG.mono (B' := w.heap.size) (by simp))
  have HB := hide (below_next (below_alloc w (.cells #[] 2)) hb1)
  clear hG hb1
  go_wp2_with fail
  go_loopw [3, 5] (fun v i wr => ∃ j : Nat, j ≤ N ∧ i = .int .i64 j ∧ wr.ownsRow w.heap.size 2 1 v j ((digs zs j).map (Value.int .i64)) ∧ Grow2 w.heap.size wr (.slice pa N pc) (piece zs) N ∧ Below w.heap.size w wr) (fun _ i _ => N - (intOf i).toNat)
  case atStart => exact ⟨0, Nat.zero_le _, rfl, O1.out, HG.out, HB.out⟩
  case round =>
    obtain ⟨j, hj, rfl, hown, hG, hbel⟩ := hrel
    by_cases hlt : j < N
    · obtain ⟨g, x, d, rfl, hc0, hr0⟩ := hG.at hlt
      have hpl : (piece zs j).length ≤ 1048576 := by rw [piece_length]; omega
      have hm1 : j + 1 ≤ maxLen := by unfold maxLen; omega
      have hm2 : (j + 1) * 8 ≤ 140737488355328 := by omega
      have hsz := hbel.size
      have HR0 := hide hr0
      have HO := hide hown
      have HGj := hide hG
      have HBj := hide hbel
      clear hr0 hown hG hbel
      go_wp2_with (first | (go_at_call 124; refine (specDigestOf_any _ _ (piece zs j) _ HR0.out (HU.out.piece j) hpl).mono ?_; rintro e w1' ⟨rfl, rfl⟩) | (at_builtin; refine wpList_append_one rfl (.tmp 15) (.tmp 21) 37 rfl w.heap.size 2 i1 (.int .i64 0) 1 8 Tryz.underlying37 ki kz0 kz1 kz2 rfl (by decide) _ _ _ rfl HO.out rfl rfl (by intro u hu; simp at hu; subst hu; rfl) hm1 hm2 hsz ?_; intro v' w2 hown2 hkept; have O2 := hide hown2; have K2 := hide hkept; clear hown2 hkept))
      go_roundw
      case rel => exact ⟨j + 1, by omega, by go_num, by rw [digs_succ]; exact O2.out, HGj.out.kept_own HO.out (by decide) (by decide) K2.out, Kept.below_own HBj.out hsz HO.out K2.out⟩
      case measure => simp [intOf]; omega
    · have hje : j = N := by omega
      subst hje
      go_wp2
      go_ret
      exact ⟨_, rfl, by rw [HN.out]; exact hown, hbel⟩





end Go.Proofs.YtlbccbikepkfiaaGreatDoor
