/-
  At every list of chunks the law FnExactChunksFault returns true: ChunksFault answers as its model does and leaves its argument alone. No condition.
-/
import Derived.Test.YtdebojhginiihagFaultC
import Derived.Test.YtdebojhginiihagChunksIn
import Derived.ProofKit
import Derived.OpenShut
import Derived.ShutString
import Derived.ChangeOld
namespace Go.Proofs.Ytdebojhginiihag.chunksFault
open Go.ChangeShapes Go.WideShapes Go.ChangeAt Go.RowKit
set_option linter.unusedVariables false

theorem own : ownKnob Try.prog.godebug = none := by kernel_rfl
theorem laidOut : laidOutB Try.prog = true := by kernel_rfl

set_option maxHeartbeats 4000000 in
theorem walk (w : World) (a0 : Option Addr) (n cap0 : Nat) (D : Nat → Int) (P : Nat → List Int) (h : RdC w a0 D P n) (hmax : n ≤ maxLen) (hin : ∀ i, i < n → (Lit.int .i64 (D i)).wf = true ∧ U8 (P i) ∧ (P i).length ≤ maxLen) :
    Calls Try.prog 8 #[.slice a0 n cap0] w fun e w' => e = .returned (.bool true) ∧ Below w.heap.size w w' := by
  unfold maxLen at hmax hin
  by_cases hfit : (n : Int) + (ahead P n : Int) ≤ 1048576
  · have hn : n ≤ 1048576 := by omega
    have hP : ∀ i, i < n → U8 (P i) ∧ (P i).length ≤ 1048576 := fun i hi => ⟨(hin i hi).2.1, by have := ahead_le P (i := i + 1) (j := n) (by omega); simp only [ahead] at this; omega⟩
    have hleft : ¬ ((1048576 : Int) - n - ahead P n) < 0 := by omega
    have HR := hide h
    have HP := hide hP
    have HPl := hide (fun i hi => (hP i hi).2)
    clear h hP hin
    go_enter Try.func8, Try.ntmps8
    go_wp2_with fail
    refine (szChunkS_fits a0 cap0 n D P 1048576 _ HR.out (by decide) hfit).mono ?_
    rintro e w1 ⟨rfl, b1⟩
    have B1 := hide b1
    clear b1
    go_wp2_with fail
    refine (toChunkS_any a0 cap0 n D P _ (HR.out.below B1.out) hn HPl.out).mono ?_
    rintro e w2 ⟨g2, rfl, -, G2, b2⟩
    have R2 := hide G2.rd
    have B2 := hide (below_next B1.out b2)
    clear G2 b2 B1
    go_wp2_with fail
    refine (specChunksFault_any _ _ n D P _ R2.out hn HP.out).mono ?_
    rintro e w3 ⟨rfl, b3⟩
    have B3 := hide (below_next B2.out b3)
    clear R2 b3 B2
    generalize hF : fault D P n = F
    have HF := hide hF
    clear hF
    go_wp2_with fail
    refine (toChunkS_any a0 cap0 n D P _ (HR.out.below B3.out) hn HPl.out).mono ?_
    rintro e w4 ⟨g4, rfl, -, G4, b4⟩
    have R4 := hide G4.rd
    have B4 := hide (below_next B3.out b4)
    clear G4 b4 B3
    go_wp2_with fail
    refine (implFault_any _ _ n D P _ R4.out hn HP.out).mono ?_
    rintro e w5 ⟨rfl, b5⟩
    have R5 := hide (R4.out.below b5)
    have B5 := hide (below_next B4.out b5)
    clear R4 b5 B4
    rw [HF.out]
    have hne : (F != F) = false := by simp
    go_wp2_with fail
    refine (toChunkS_any a0 cap0 n D P _ (HR.out.below B5.out) hn HPl.out).mono ?_
    rintro e w6 ⟨g6, rfl, -, G6, b6⟩
    have X6 := hide G6.rd
    have R6 := hide (R5.out.below b6)
    have B6 := hide (below_next B5.out b6)
    clear G6 b6 R5 B5
    go_wp2_with fail
    refine (eqChunkS_same _ _ _ _ n D P _ R6.out X6.out hn HPl.out).mono ?_
    rintro e w7 ⟨rfl, b7⟩
    have B7 := hide (below_next B6.out b7)
    clear b7 R6 X6 B6
    go_wp2_with fail
    go_ret
    exact ⟨rfl, B7.out⟩
  · have HR := hide h
    have hP : ∀ i, i < n → ((P i).length : Int) ≤ 9223372036854775807 := fun i hi => by have := (hin i hi).2.2; omega
    have HP := hide hP
    clear h hP hin
    go_enter Try.func8, Try.ntmps8
    go_wp2_with fail
    refine (szChunkS_not a0 cap0 n D P 1048576 _ HR.out (by decide) (by decide) (by omega) HP.out (by omega)).mono ?_
    rintro e w1 ⟨rfl, b1⟩
    have B1 := hide b1
    clear b1
    go_wp2_with fail
    go_ret
    exact ⟨rfl, B1.out⟩
set_option maxRecDepth 100000 in
set_option maxHeartbeats 800000 in
theorem lifted (os : Os) (started : os.Started) (H : Type) (enc : TypeId × Value → H) :
    ReturnsInHanded {} Try.checked os 8 .any (Rows.fnExactChunksFaultSpec.pre6 enc Try.prog Try.f8 Rows.fnExactChunksFaultRow.domain false) (Rows.fnExactChunksFaultSpec.post enc Try.prog Try.f8 false true false false) := by
  refine returnsInHanded_of_change (C := Try.checked) own started (by kernel_rfl) Try.func8
    (ChangeSpec.witness6 (enc := enc) (C := Try.checked) false ⟨#[], #[.slice none 0 0], []⟩ 8 (by kernel_rfl) (by kernel_rfl) (by kernel_rfl) (by kernel_rfl)) ?_
  intro W base args ds gs before hval0 hW hcnd _
  have hval : ∀ (j : Nat) t v, Try.f8.params[j]? = some t → args[j]? = some v → Value.okWide Try.prog W .any base t v := hval0
  have hW' := hW
  obtain ⟨p, q, hA0, hV, rfl, hfz, hnd⟩ := hW
  have hA : DataW.TrodAll enc Try.prog W 0 (fun _ => true) true Try.f8.params.toList args.toList ds p := hA0
  rw [Try.params8] at hA hval
  obtain ⟨v0, vs0, d0, ds0, p0, q0, hargs0, rfl, rfl, h0, r0⟩ := trodAll_cons hA
  obtain ⟨rfl, rfl, rfl⟩ := trodAll_nil r0
  obtain rfl : args = #[v0] := by cases args; simp_all
  obtain ⟨rfl, rfl⟩ := trodVars_none hV
  obtain ⟨a0, len0, cap0, rfl⟩ := okWide_slice Try.underlying49 (hval 0 49 v0 rfl rfl)
  have k0 := h0
  have lt0 : ∀ x ∈ p0, x.block < W.heap.size := by obtain ⟨m, hm⟩ := k0; exact DataW.trod_lt m _ _ _ hm
  obtain ⟨fuel0, hf0⟩ := h0
  obtain ⟨D0, P0, rd0, mx0, in0⟩ := rdC_of_trod (by simpa [Value.cells] using hf0)
  clear hA0 hval0
  refine (walk W a0 len0 cap0 D0 P0 rd0 mx0 in0).mono fun e W' ⟨he, bel⟩ => ?_
  subst he
  exact ⟨_, rfl, _, _, _, [], _, [], hW', trodAll_mk1 (shut_bool Try.underlying4 _), (trodAll_cons_mk (Below.trod laidOut (by kernel_rfl) (of_decide_eq_true (by kernel_rfl)) k0 bel lt0) trodAll_mk0), rfl, bel.frame _, fun h => by cases h⟩

theorem over : Rows.fnExactChunksFaultRow.holds Try.pinned (OpenSpec.ofChange Rows.fnExactChunksFaultSpec) :=
  OpenClaim.holds_of_wide 8 Try.f8 rfl rfl rfl rfl rfl rfl rfl ⟨rfl, rfl, rfl, rfl, rfl⟩ rfl rfl rfl rfl rfl (by kernel_rfl) Try.func8 (by kernel_rfl)
    (of_decide_eq_true (by kernel_rfl)) (by unfold Func.isWrapper; first | (rw [if_pos (by decide +kernel)]; kernel_rfl) | (rw [if_neg (by decide +kernel)]; exact ⟨rfl, rfl⟩))
    (fun os started H enc _ => lifted os started H enc)
end Go.Proofs.Ytdebojhginiihag.chunksFault
namespace Go.Proofs.Ytdebojhginiihag
theorem fnExactChunksFault_holds : Rows.FnExactChunksFaultSaid := chunksFault.over
#print axioms fnExactChunksFault_holds
end Go.Proofs.Ytdebojhginiihag
