/-
  Contracts of the laws' helpers on ChunksResult.
-/
import Derived.Test.YtdebojhginiihahChunksMk
namespace Go.Proofs.Ytdebojhginiihah
open Go.RowKit
set_option linter.unusedVariables false

set_option maxHeartbeats 400000 in
theorem eqChunksResult_same (q : Int) (a b : Option Addr) (ca cb n : Nat) (D : Nat → Int) (P : Nat → List Int) (w : World) (ha : RdC w a D P n) (hb : RdC w b D P n) (hl : n ≤ 1048576) (hP : ∀ i, i < n → (P i).length ≤ 1048576) :
    Calls Try.prog 14 #[.agg #[.int .i64 q, .slice a n ca], .agg #[.int .i64 q, .slice b n cb]] w fun e w' => e = .returned (.bool true) ∧ Below w.heap.size w w' := by
  have HA := hide ha
  have HB := hide hb
  have HP := hide hP
  clear ha hb hP
  have B1 : Below w.heap.size w ((w.alloc (.cells #[.int .i64 q, .slice a n ca] 27)).alloc (.cells #[.int .i64 q, .slice b n cb] 27)) := ((Below.refl _ _).alloc (Nat.le_refl _) _).alloc (by simp) _
  have HBB := hide B1
  clear B1
  go_enter Try.func14, Try.ntmps14
  go_wp2_with fail
  refine (eqChunkS_same a b ca cb n D P _ (HA.out.below HBB.out) (HB.out.below HBB.out) hl HP.out).mono ?_
  rintro e w1 ⟨rfl, b1⟩
  have B2 := hide (below_next HBB.out b1)
  clear b1 HBB
  go_wp2_with fail
  go_ret
  exact ⟨rfl, B2.out⟩

set_option maxHeartbeats 400000 in
theorem markChunksResult_any (q : Int) (B T : Nat) (a : Option Addr) (c n : Nat) (D : Nat → Int) (P : Nat → List Int) (k : Int) (w : World) (h : GC B T w (.slice a n c) D P n) (hk0 : 0 ≤ k) (hk1 : k ≤ 1048576) (hn : n ≤ 1048576) (hl : ahead P n ≤ 1048576) :
    Calls Try.prog 19 #[.agg #[.int .i64 q, .slice a n c], .int .i64 k] w fun e w' => e = .returned (.int .i64 (k + n + ahead P n)) ∧ GC B T w' (.slice a n c) (markD k P) (markP k P) n ∧ Kept (fun b => B ≤ b ∧ b < T) w w' := by
  have HG := hide h
  clear h
  go_enter Try.func19, Try.ntmps19
  go_wp2_with fail
  refine (markChunkS_any B T a c n D P k _ (HG.out.below (below_alloc _ _)) hk0 hk1 hn hl).mono ?_
  rintro e w1 ⟨rfl, g1, k1⟩
  have G1 := hide g1
  have K1 := hide k1
  clear g1 k1
  go_wp2_with fail
  go_ret
  exact ⟨rfl, G1.out, ((Kept.refl _ _).alloc _).trans K1.out⟩

set_option maxHeartbeats 400000 in
theorem heldChunksResult_any (q : Int) (a : Option Addr) (c n : Nat) (P : Nat → List Int) (k : Int) (w : World) (h : RdC w a (markD k P) (markP k P) n) (hk0 : 0 ≤ k) (hk1 : k ≤ 1048576) (hn : n ≤ 1048576) (hl : ahead P n ≤ 1048576) :
    Calls Try.prog 20 #[.agg #[.int .i64 q, .slice a n c], .int .i64 k] w fun e w' => e = .returned (.int .i64 (k + n + ahead P n)) ∧ Below w.heap.size w w' := by
  have HG := hide h
  clear h
  have hk2 : ¬ (k + (n : Int) + (ahead P n : Int)) < 0 := by omega
  go_enter Try.func20, Try.ntmps20
  go_wp2_with fail
  refine (heldChunkS_any a c n P k _ (HG.out.below (below_alloc _ _)) hk0 hk1 hn hl).mono ?_
  rintro e w1 ⟨rfl, b1⟩
  have B1 := hide (below_next (below_alloc _ _) b1)
  clear b1
  go_wp2_with fail
  go_ret
  exact ⟨rfl, B1.out⟩

end Go.Proofs.Ytdebojhginiihah
