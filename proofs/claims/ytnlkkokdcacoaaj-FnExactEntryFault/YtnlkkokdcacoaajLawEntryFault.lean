/-
  At every entry the law FnExactEntryFault returns true: EntryFault answers as its model does and leaves its argument alone. No condition.
-/
import Derived.Test.YtnlkkokdcacoaajEntX
import Derived.ProofKit
import Derived.OpenShut
import Derived.ShutString
import Derived.ChangeOld
namespace Go.Proofs.Ytnlkkokdcacoaaj.entryFault
open Go.ChangeShapes Go.WideShapes Go.ChangeAt Go.RowKit
set_option linter.unusedVariables false

theorem own : ownKnob Try.prog.godebug = none := by kernel_rfl
theorem laidOut : laidOutB Try.prog = true := by kernel_rfl

set_option maxRecDepth 100000 in
set_option maxHeartbeats 4000000 in
theorem walk (w : World) (e : En) (a : Option Addr) (c : Nat) (hin : InE w e a) :
    Calls Try.prog 3 #[.agg #[.string (str e.path), .int .i64 e.kind, .int .i64 e.size, .slice a e.chunks.length c]] w fun r w' => r = .returned (.bool true) ∧ Below w.heap.size w w' := by
  have hpl := hin.pl
  have hcl := hin.cl
  unfold maxLen at hpl hcl
  have B0 := hide (below_alloc w (.cells #[.string (str e.path), .int .i64 e.kind, .int .i64 e.size, .slice a e.chunks.length c] 24))
  have X0 := hide (Four.new w (.string (str e.path)) (.int .i64 e.kind) (.int .i64 e.size) (.slice a e.chunks.length c) 24)
  have HR := hide hin.rd
  clear hin
  have hsz : ((str e.path).size : Int) = (e.path.length : Int) := by rw [str_size]
  by_cases hfit : (e.path.length : Int) + (e.chunks.length : Int) ≤ 1048576
  · have hn : e.chunks.length ≤ 1048576 := by omega
    have hp : e.path.length ≤ 1048576 := by omega
    have hleft : ¬ ((1048576 : Int) - (str e.path).size - e.chunks.length) < 0 := by omega
    go_enter Try.func3, Try.ntmps3
    go_wp2_with fail
    generalize w.alloc (.cells #[.string (str e.path), .int .i64 e.kind, .int .i64 e.size, .slice a e.chunks.length c] 24) = W0 at *
    obtain ⟨b0, hb0⟩ : ∃ b0, b0 = w.heap.size := ⟨_, rfl⟩
    rw [← hb0] at X0 ⊢
    clear hb0
    refine (szEntry_fits _ _ _ _ _ _ 1048576 _ (by decide) (by omega)).mono ?_
    rintro r w1 ⟨rfl, b1⟩
    have B1 := hide (below_next B0.out b1)
    have X1 := X0.out.below b1
    clear b1 B0 X0
    obtain ⟨p0, p1, p2, p3⟩ := X1
    go_wp2_with fail
    refine (toEntry_any _ _ _ _ _ e.chunks _ (HR.out.below B1.out) hn).mono ?_
    rintro r w2 ⟨g2, rfl, -, G2, b2⟩
    have R2 := hide (ownInts_reads G2 rfl)
    have B2 := hide (below_next B1.out b2)
    have X2 := Four.below (w := w1) (w' := w2) (b := b0) ⟨p0, p1, p2, p3⟩ b2
    clear G2 b2 B1 p0 p1 p2 p3
    obtain ⟨p0, p1, p2, p3⟩ := X2
    go_wp2_with fail
    refine (specEntryFault_any e _ _ _ _ R2.out rfl hp hn).mono ?_
    rintro r w3 ⟨rfl, b3⟩
    have B3 := hide (below_next B2.out b3)
    have X3 := Four.below (w := w2) (w' := w3) (b := b0) ⟨p0, p1, p2, p3⟩ b3
    clear R2 b3 B2 p0 p1 p2 p3
    obtain ⟨p0, p1, p2, p3⟩ := X3
    generalize hF : entFault e = F
    have HF := hide hF
    clear hF
    go_wp2_with fail
    refine (toEntry_any _ _ _ _ _ e.chunks _ (HR.out.below B3.out) hn).mono ?_
    rintro r w4 ⟨g4, rfl, -, G4, b4⟩
    have R4 := hide (ownInts_reads G4 rfl)
    have B4 := hide (below_next B3.out b4)
    have X4 := Four.below (w := w3) (w' := w4) (b := b0) ⟨p0, p1, p2, p3⟩ b4
    have Y4 := hide (Four.new w4 (.string (str e.path)) (.int .i64 e.kind) (.int .i64 e.size) (.slice (some ⟨g4, 0, none⟩) e.chunks.length e.chunks.length) 27)
    have X5 := hide (X4.below (below_alloc w4 (.cells #[.string (str e.path), .int .i64 e.kind, .int .i64 e.size, .slice (some ⟨g4, 0, none⟩) e.chunks.length e.chunks.length] 27)))
    have R5 := hide (R4.out.below (below_alloc w4 (.cells #[.string (str e.path), .int .i64 e.kind, .int .i64 e.size, .slice (some ⟨g4, 0, none⟩) e.chunks.length e.chunks.length] 27)))
    have B5 := hide (below_next B4.out (below_alloc w4 (.cells #[.string (str e.path), .int .i64 e.kind, .int .i64 e.size, .slice (some ⟨g4, 0, none⟩) e.chunks.length e.chunks.length] 27)))
    clear G4 b4 B3 X4 R4 B4 p0 p1 p2 p3
    go_wp2_with fail
    generalize w4.alloc (.cells #[.string (str e.path), .int .i64 e.kind, .int .i64 e.size, .slice (some ⟨g4, 0, none⟩) e.chunks.length e.chunks.length] 27) = W5 at *
    generalize w4.heap.size = b5 at *
    refine (implEntryFault_any e _ _ _ _ R5.out rfl hp hn).mono ?_
    rintro r w6 ⟨rfl, b6⟩
    rw [HF.out]
    have X6 := X5.out.below b6
    have Y6 := Y4.out.below b6
    have R6 := hide (R5.out.below b6)
    have B6 := hide (below_next B5.out b6)
    clear b6 X5 Y4 R5 B5
    have KC : Hid (∀ w' : World, Below w6.heap.size w6 w' → (w'.cell? ⟨b0, 0, none⟩ = some (.string (str e.path)) ∧ w'.cell? ⟨b0, 1, none⟩ = some (.int .i64 e.kind) ∧ w'.cell? ⟨b0, 2, none⟩ = some (.int .i64 e.size) ∧ w'.cell? ⟨b0, 3, none⟩ = some (.slice a e.chunks.length c)) ∧ w'.cell? ⟨b5, 0, none⟩ = some (.string (str e.path)) ∧ w'.cell? ⟨b5, 1, none⟩ = some (.int .i64 e.kind) ∧ w'.cell? ⟨b5, 2, none⟩ = some (.int .i64 e.size) ∧ w'.cell? ⟨b5, 3, none⟩ = some (.slice (some ⟨g4, 0, none⟩) e.chunks.length e.chunks.length)) := hide (fun w' hb => ⟨X6.below hb, Y6.below hb⟩)
    obtain ⟨p0, p1, p2, p3⟩ := X6
    obtain ⟨q0, q1, q2, q3⟩ := Y6
    go_wp2_with fail
    go_region_held3 (fun w' => (w'.cell? ⟨b0, 0, none⟩ = some (.string (str e.path)) ∧ w'.cell? ⟨b0, 1, none⟩ = some (.int .i64 e.kind) ∧ w'.cell? ⟨b0, 2, none⟩ = some (.int .i64 e.size) ∧ w'.cell? ⟨b0, 3, none⟩ = some (.slice a e.chunks.length c)) ∧ w'.cell? ⟨b5, 0, none⟩ = some (.string (str e.path)) ∧ w'.cell? ⟨b5, 1, none⟩ = some (.int .i64 e.kind) ∧ w'.cell? ⟨b5, 2, none⟩ = some (.int .i64 e.size) ∧ w'.cell? ⟨b5, 3, none⟩ = some (.slice (some ⟨g4, 0, none⟩) e.chunks.length e.chunks.length)) (first | exact KC.out _ BB7.out | exact KC.out _ BB8.out | go_keep)
      ((first
        | (go_at_call 11; refine (toEntry_any _ _ _ _ _ e.chunks _ (HR.out.below B6.out.drew) hn).mono ?_; rintro r w7 ⟨g7, rfl, -, G7, b7⟩; have R7 := hide (ownInts_reads G7 rfl); have BB7 := hide ((Below.refl w6.heap.size w6).drew.trans b7); clear G7 b7)
        | (go_at_call 13; refine (eqEntry_same _ _ _ _ _ _ _ e.chunks _ (R6.out.below BB7.out) R7.out hn).mono ?_; rintro r w8 ⟨rfl, b8⟩; have BB8 := hide (below_next BB7.out b8); clear b8)))
    go_wp2_with fail
    go_ret
    exact ⟨rfl, below_next B6.out BB8.out⟩
  · go_enter Try.func3, Try.ntmps3
    go_wp2_with fail
    refine (szEntry_not _ _ _ _ _ _ 1048576 _ (by decide) (by decide) (by omega) (by omega) (by omega)).mono ?_
    rintro r w1 ⟨rfl, b1⟩
    have B1 := hide (below_next B0.out b1)
    clear b1
    go_wp2_with fail
    go_ret
    exact ⟨rfl, B1.out⟩
set_option maxRecDepth 100000 in
set_option maxHeartbeats 800000 in
theorem lifted (os : Os) (started : os.Started) (H : Type) (enc : TypeId × Value → H) :
    ReturnsInHanded {} Try.checked os 3 .any (Rows.fnExactEntryFaultSpec.pre6 enc Try.prog Try.f3 Rows.fnExactEntryFaultRow.domain false) (Rows.fnExactEntryFaultSpec.post enc Try.prog Try.f3 false true false false) := by
  refine returnsInHanded_of_change (C := Try.checked) own started (by kernel_rfl) Try.func3
    (ChangeSpec.witness6 (enc := enc) (C := Try.checked) false ⟨#[], #[.agg #[.string ⟨#[]⟩, .int .i64 0, .int .i64 0, .slice none 0 0]], []⟩ 8 (by kernel_rfl) (by kernel_rfl) (by kernel_rfl) (by kernel_rfl)) ?_
  intro W base args ds gs before hval0 hW hcnd _
  have hval : ∀ (j : Nat) t v, Try.f3.params[j]? = some t → args[j]? = some v → Value.okWide Try.prog W .any base t v := hval0
  have hW' := hW
  obtain ⟨p, q, hA0, hV, rfl, hfz, hnd⟩ := hW
  have hA : DataW.TrodAll enc Try.prog W 0 (fun _ => true) true Try.f3.params.toList args.toList ds p := hA0
  rw [Try.params3] at hA hval
  obtain ⟨v0, vs0, d0, ds0, p0, q0, hargs0, rfl, rfl, h0, r0⟩ := trodAll_cons hA
  obtain ⟨rfl, rfl, rfl⟩ := trodAll_nil r0
  obtain rfl : args = #[v0] := by cases args; simp_all
  obtain ⟨rfl, rfl⟩ := trodVars_none hV
  obtain ⟨cs0, rfl, -⟩ := okWide_struct Try.underlying24 (hval 0 24 v0 rfl rfl)
  have k0 := h0
  have lt0 : ∀ x ∈ p0, x.block < W.heap.size := by obtain ⟨m, hm⟩ := k0; exact DataW.trod_lt m _ _ _ hm
  obtain ⟨fuel0, hf0⟩ := h0
  obtain ⟨e0, a0, cap0, hcs0, in0⟩ := entry_of_trod (by simpa [Value.cells] using hf0)
  obtain rfl : cs0 = #[.string (str e0.path), .int .i64 e0.kind, .int .i64 e0.size, .slice a0 e0.chunks.length cap0] := by cases cs0; simp_all
  clear hA0 hval0
  refine (walk W e0 a0 cap0 in0).mono fun e W' ⟨he, bel⟩ => ?_
  subst he
  exact ⟨_, rfl, _, _, _, [], _, [], hW', trodAll_mk1 (shut_bool Try.underlying4 _), (trodAll_cons_mk (Below.trod laidOut (by kernel_rfl) (of_decide_eq_true (by kernel_rfl)) k0 bel lt0) trodAll_mk0), rfl, bel.frame _, fun h => by cases h⟩

theorem over : Rows.fnExactEntryFaultRow.holds Try.pinned (OpenSpec.ofChange Rows.fnExactEntryFaultSpec) :=
  OpenClaim.holds_of_wide 3 Try.f3 rfl rfl rfl rfl rfl rfl rfl ⟨rfl, rfl, rfl, rfl, rfl⟩ rfl rfl rfl rfl rfl (by kernel_rfl) Try.func3 (by kernel_rfl)
    (of_decide_eq_true (by kernel_rfl)) (by unfold Func.isWrapper; first | (rw [if_pos (by decide +kernel)]; kernel_rfl) | (rw [if_neg (by decide +kernel)]; exact ⟨rfl, rfl⟩))
    (fun os started H enc _ => lifted os started H enc)
end Go.Proofs.Ytnlkkokdcacoaaj.entryFault
namespace Go.Proofs.Ytnlkkokdcacoaaj
theorem fnExactEntryFault_holds : Rows.FnExactEntryFaultSaid := entryFault.over
#print axioms fnExactEntryFault_holds
end Go.Proofs.Ytnlkkokdcacoaaj
