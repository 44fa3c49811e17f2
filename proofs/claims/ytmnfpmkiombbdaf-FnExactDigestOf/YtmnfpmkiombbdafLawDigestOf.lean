/-
  At every byte slice the law FnExactDigestOf returns true: DigestOf answers as its model does and leaves its argument alone. No condition.
-/
import Derived.Test.YtmnfpmkiombbdafDigest
import Derived.ProofKit
import Derived.OpenShut
import Derived.ShutString
import Derived.ChangeOld
namespace Go.Proofs.Ytmnfpmkiombbdaf.digestOf
open Go.ChangeShapes Go.WideShapes Go.ChangeAt Go.RowKit
set_option linter.unusedVariables false

theorem own : ownKnob Try.prog.godebug = none := by kernel_rfl
theorem laidOut : laidOutB Try.prog = true := by kernel_rfl

set_option maxHeartbeats 400000 in
theorem walk (a0 : Option Addr) (cap0 : Nat) (zs : List Int) (w : World) (h : Reads .u8 w a0 zs) (hu : U8 zs) (hmax : zs.length ≤ maxLen) :
    Calls Try.prog 3 #[.slice a0 zs.length cap0] w fun e w' => e = .returned (.bool true) ∧ Below w.heap.size w w' := by
  unfold maxLen at hmax
  by_cases hbig : 1048576 < zs.length
  · have hb : (1048576 : Int) < (zs.length : Int) := by omega
    go_enter Try.func3, Try.ntmps3
    go_wp2
    go_ret
    exact ⟨rfl, Below.refl _ _⟩
  · have hl : zs.length ≤ 1048576 := by omega
    have hb : ¬ (1048576 : Int) < (zs.length : Int) := by omega
    clear hbig hmax
    go_enter Try.func3, Try.ntmps3
    go_wp2_with fail
    refine (toByteS_any a0 cap0 zs _ h hl).mono ?_
    rintro e w1 ⟨rfl, hrow1, hb1⟩
    have hr1 : Reads .u8 w1 (some ⟨w.heap.size, 0, none⟩) zs := Reads.row hrow1 (Nat.le_refl _) (fun _ _ => rfl)
    go_wp2_with fail
    refine (specDigestOf_any _ _ zs _ hr1 hu hl).mono ?_
    rintro e w1' ⟨rfl, rfl⟩
    go_wp2_with fail
    refine (toByteS_any a0 cap0 zs _ (h.below hb1) hl).mono ?_
    rintro e w2 ⟨rfl, hrow2, hb2⟩
    have hr2 : Reads .u8 w2 (some ⟨w1'.heap.size, 0, none⟩) zs := Reads.row hrow2 (Nat.le_refl _) (fun _ _ => rfl)
    have hb02 : Below w.heap.size w w2 := hb1.trans (hb2.mono hb1.size)
    go_wp2_with fail
    refine (implDigestOf_any _ _ zs _ hr2 hu hl).mono ?_
    rintro e w2' ⟨rfl, rfl⟩
    go_wp2_with fail
    refine (toByteS_any a0 cap0 zs _ (h.below hb02) hl).mono ?_
    rintro e w3 ⟨rfl, hrow3, hb3⟩
    have hr3 : Reads .u8 w3 (some ⟨w2'.heap.size, 0, none⟩) zs := Reads.row hrow3 (Nat.le_refl _) (fun _ _ => rfl)
    have hb03 : Below w.heap.size w w3 := hb02.trans (hb3.mono hb02.size)
    go_wp2_with fail
    refine (eqByteS_any _ _ _ _ zs zs _ (hr2.below hb3) hr3 hl hl).mono ?_
    rintro e w4 ⟨rfl, n, rfl⟩
    have heq : (zs == zs) = true := by simp
    rw [heq]
    go_wp2_with fail
    go_ret
    exact ⟨rfl, below_drewN hb03 _⟩

set_option maxRecDepth 100000 in
theorem lifted (os : Os) (started : os.Started) (H : Type) (enc : TypeId × Value → H) :
    ReturnsInHanded {} Try.checked os 3 .any (Rows.fnExactDigestOfSpec.pre6 enc Try.prog Try.f3 Rows.fnExactDigestOfRow.domain false) (Rows.fnExactDigestOfSpec.post enc Try.prog Try.f3 false true false false) := by
  refine returnsInHanded_of_change (C := Try.checked) own started (by kernel_rfl) Try.func3
    (ChangeSpec.witness6 (enc := enc) (C := Try.checked) false ⟨#[], #[.slice none 0 0], []⟩ 8 (by kernel_rfl) (by kernel_rfl) (by kernel_rfl) (by kernel_rfl)) ?_
  intro W base args ds gs before hval0 hW hcnd _
  have hval : ∀ (j : Nat) t v, Try.f3.params[j]? = some t → args[j]? = some v → Value.okWide Try.prog W .any base t v := hval0
  have hW' := hW
  obtain ⟨p, q, hA0, hV, rfl, hfz, hnd⟩ := hW
  have hA : DataW.TrodAll enc Try.prog W 0 (fun _ => true) true Try.f3.params.toList args.toList ds p := hA0
  rw [Try.params3] at hA hval
  obtain ⟨v0, vs0, d0, ds0, p0, q0, hargs, rfl, rfl, h0, r0⟩ := trodAll_cons hA
  obtain ⟨rfl, rfl, rfl⟩ := trodAll_nil r0
  obtain rfl : args = #[v0] := by cases args; simp_all
  obtain ⟨rfl, rfl⟩ := trodVars_none hV
  obtain ⟨a0, len0, cap0, rfl⟩ := okWide_slice Try.underlying22 (hval 0 22 v0 rfl rfl)
  have k0 := h0
  have lt0 : ∀ x ∈ p0, x.block < W.heap.size := by obtain ⟨m, hm⟩ := k0; exact DataW.trod_lt m _ _ _ hm
  obtain ⟨zs, hlen, hread, hu, hmax⟩ : ∃ zs : List Int, zs.length = len0 ∧ Reads .u8 W a0 zs ∧ U8 zs ∧ zs.length ≤ maxLen := by
    obtain ⟨fuel, hf⟩ := h0
    rcases open_ints Try.underlying22 Try.underlying5 (by kernel_rfl) hf with ⟨hcs, _⟩ | ⟨x, l, c, zs, hcs, _, hl, hm, hz, _, hcell, hwz⟩
    · simp [Value.cells] at hcs
      obtain ⟨rfl, rfl, rfl⟩ := hcs
      exact ⟨[], rfl, fun h => absurd rfl h, fun z hz => by simp at hz, Nat.zero_le _⟩
    · simp [Value.cells] at hcs
      obtain ⟨rfl, rfl, rfl⟩ := hcs
      exact reads_of_row (by simpa using hz) hl hm hcell hwz
  subst hlen
  clear hA0 hval0
  refine (walk a0 cap0 zs W hread hu hmax).mono fun e W' ⟨he, bel⟩ => ?_
  subst he
  exact ⟨_, rfl, _, _, _, [], _, [], hW', trodAll_mk1 (shut_bool Try.underlying4 _), (trodAll_cons_mk (Below.trod laidOut (by kernel_rfl) (of_decide_eq_true (by kernel_rfl)) k0 bel lt0) trodAll_mk0), rfl, bel.frame _, fun h => by cases h⟩

theorem over : Rows.fnExactDigestOfRow.holds Try.pinned (OpenSpec.ofChange Rows.fnExactDigestOfSpec) :=
  OpenClaim.holds_of_wide 3 Try.f3 rfl rfl rfl rfl rfl rfl rfl ⟨rfl, rfl, rfl, rfl, rfl⟩ rfl rfl rfl rfl rfl (by kernel_rfl) Try.func3 (by kernel_rfl)
    (of_decide_eq_true (by kernel_rfl)) (by unfold Func.isWrapper; first | (rw [if_pos (by decide +kernel)]; kernel_rfl) | (rw [if_neg (by decide +kernel)]; exact ⟨rfl, rfl⟩))
    (fun os started H enc _ => lifted os started H enc)

end Go.Proofs.Ytmnfpmkiombbdaf.digestOf
namespace Go.Proofs.Ytmnfpmkiombbdaf
theorem fnExactDigestOf_holds : Rows.FnExactDigestOfSaid := digestOf.over
#print axioms fnExactDigestOf_holds
end Go.Proofs.Ytmnfpmkiombbdaf
