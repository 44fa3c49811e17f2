/-
  At every manifest the law FnExactPackManifest returns true: PackManifest answers as its model does and leaves its argument alone. No condition.
-/
import Derived.Test.YtokcibegjhfofalManX
import Derived.Test.YtokcibegjhfofalManM
import Derived.Test.YtokcibegjhfofalManQ
import Derived.ProofKit
import Derived.OpenShut
import Derived.ShutString
import Derived.ChangeOld
namespace Go.Proofs.Ytokcibegjhfofal.packManifest
open Go.ChangeShapes Go.WideShapes Go.ChangeAt Go.RowKit
set_option linter.unusedVariables false

theorem own : ownKnob Try.prog.godebug = none := by kernel_rfl
theorem laidOut : laidOutB Try.prog = true := by kernel_rfl

set_option maxRecDepth 100000 in
set_option maxHeartbeats 4000000 in
theorem walk (w : World) (n : Bs) (ds : List Int) (a : Option Addr) (c : Nat) (hrd : Reads .i64 w a ds) (hnl : n.length ≤ maxLen) (hdl : ds.length ≤ maxLen) :
    Calls Try.prog 3 #[.agg #[.string (str n), .slice a ds.length c]] w fun r w' => r = .returned (.bool true) ∧ Below w.heap.size w w' := by
  unfold maxLen at hnl hdl
  have B0 := hide (below_alloc w (.cells #[.string (str n), .slice a ds.length c] 24))
  have X0 := hide (Box.new w (.string (str n)) (.slice a ds.length c) 24)
  have HR := hide hrd
  clear hrd
  have hsz : ((str n).size : Int) = (n.length : Int) := by rw [str_size]
  by_cases hfit : (n.length : Int) + (ds.length : Int) ≤ 1048576
  · have hn : ds.length ≤ 1048576 := by omega
    have hp : n.length ≤ 2097152 := by omega
    have hleft : ¬ ((1048576 : Int) - (str n).size - ds.length) < 0 := by omega
    go_enter Try.func3, Try.ntmps3
    go_wp2_with fail
    generalize w.alloc (.cells #[.string (str n), .slice a ds.length c] 24) = W0 at *
    obtain ⟨b0, hb0⟩ : ∃ b0, b0 = w.heap.size := ⟨_, rfl⟩
    rw [← hb0] at X0 ⊢
    clear hb0
    refine (szManifest_fits _ _ _ _ 1048576 _ (by decide) (by omega)).mono ?_
    rintro r w1 ⟨rfl, b1⟩
    have B1 := hide (below_next B0.out b1)
    have X1 := X0.out.below b1
    clear b1 B0 X0
    obtain ⟨⟨p0, p1⟩, p2, p3⟩ := X1
    go_wp2_with fail
    refine (toManifest_any _ _ _ ds _ (HR.out.below B1.out) hn).mono ?_
    rintro r w2 ⟨g2, rfl, -, R2, b2⟩
    have R2 := hide R2
    have B2 := hide (below_next B1.out b2)
    have X2 := hide (Box.below (w := w1) (w' := w2) (b := b0) ⟨⟨p0, p1⟩, p2, p3⟩ b2)
    clear b2 B1 p0 p1 p2 p3
    go_wp2_with fail
    refine (specPackManifest_any n ds _ _ _ R2.out hp hn).mono ?_
    rintro r w3 ⟨rfl, b3⟩
    have A3 := hide (below_next b3 (below_alloc w3 (.cells #[.int .i64 (manFault n ds), .string (str (packText n ds))] 27)))
    have T3 := hide (Box.new w3 (.int .i64 (manFault n ds)) (.string (str (packText n ds))) 27)
    have B3 := hide (below_next B2.out A3.out)
    have X3 := hide (X2.out.below A3.out)
    have HMI := hide (fun (u : World) (x : Option Addr) (cc : Nat) (hu : Reads .i64 u x ds) => implPackManifest_any n ds x cc u hu hp hn)
    generalize manFault n ds = F at *
    generalize str (packText n ds) = S at *
    clear b3 R2 B2 X2 A3
    obtain ⟨⟨p0, p1⟩, p2, p3⟩ := X3.out
    go_wp2_with fail
    generalize w3.alloc (.cells #[.int .i64 F, .string S] 27) = W3 at *
    generalize w3.heap.size = b3 at *
    refine (toManifest_any _ _ _ ds _ (HR.out.below B3.out) hn).mono ?_
    rintro r w4 ⟨g4, rfl, -, R4, b4⟩
    have A4 := hide (below_next b4 (below_alloc w4 (.cells #[.string (str n), .slice (some ⟨g4, 0, none⟩) ds.length ds.length] 29)))
    have Y4 := hide (Box.new w4 (.string (str n)) (.slice (some ⟨g4, 0, none⟩) ds.length ds.length) 29)
    have R5 := hide (R4.below (below_alloc w4 (.cells #[.string (str n), .slice (some ⟨g4, 0, none⟩) ds.length ds.length] 29)))
    have X5 := hide (X3.out.below A4.out)
    have T5 := hide (T3.out.below A4.out)
    have B5 := hide (below_next B3.out A4.out)
    clear b4 R4 X3 T3 B3 A4 p0 p1 p2 p3
    go_wp2_with fail
    generalize w4.alloc (.cells #[.string (str n), .slice (some ⟨g4, 0, none⟩) ds.length ds.length] 29) = W5 at *
    generalize w4.heap.size = b5 at *
    obtain ⟨⟨q0, q1⟩, q2, q3⟩ := Y4.out
    go_wp2_with fail
    refine (HMI.out _ _ _ R5.out).mono ?_
    rintro r w6 ⟨rfl, b6⟩
    have A6 := hide (below_next b6 (below_alloc w6 (.cells #[.int .i64 F, .string S] 27)))
    have U6 := hide (Box.new w6 (.int .i64 F) (.string S) 27)
    have X6 := hide (X5.out.below A6.out)
    have T6 := hide (T5.out.below A6.out)
    have Y6 := hide (Y4.out.below A6.out)
    have R6 := hide (R5.out.below A6.out)
    have B6 := hide (below_next B5.out A6.out)
    clear b6 X5 T5 Y4 R5 B5 A6 q0 q1 q2 q3
    obtain ⟨⟨t0, t1⟩, t2, t3⟩ := T6.out
    go_wp2_with fail
    generalize w6.alloc (.cells #[.int .i64 F, .string S] 27) = W6 at *
    generalize w6.heap.size = b6 at *
    obtain ⟨⟨u0, u1⟩, u2, u3⟩ := U6.out
    go_wp2_with fail
    refine (eqTextM_same _ _ _).mono ?_
    rintro r w7 ⟨rfl, b7⟩
    have X7 := X6.out.below b7
    have Y7 := Y6.out.below b7
    have R7 := hide (R6.out.below b7)
    have B7 := hide (below_next B6.out b7)
    clear b7 X6 Y6 T6 U6 R6 B6 t0 t1 t2 t3 u0 u1 u2 u3
    have KC : Hid (∀ w' : World, Below w7.heap.size w7 w' → (w'.cell? ⟨b0, 0, none⟩ = some (.string (str n)) ∧ w'.cell? ⟨b0, 1, none⟩ = some (.slice a ds.length c)) ∧ w'.cell? ⟨b5, 0, none⟩ = some (.string (str n)) ∧ w'.cell? ⟨b5, 1, none⟩ = some (.slice (some ⟨g4, 0, none⟩) ds.length ds.length)) := hide (fun w' hb => ⟨(X7.below hb).1, (Y7.below hb).1⟩)
    obtain ⟨⟨p0, p1⟩, q0, q1⟩ := KC.out _ (Below.refl _ _)
    clear X7 Y7
    go_wp2_with fail
    go_region_held3 (fun w' => (w'.cell? ⟨b0, 0, none⟩ = some (.string (str n)) ∧ w'.cell? ⟨b0, 1, none⟩ = some (.slice a ds.length c)) ∧ w'.cell? ⟨b5, 0, none⟩ = some (.string (str n)) ∧ w'.cell? ⟨b5, 1, none⟩ = some (.slice (some ⟨g4, 0, none⟩) ds.length ds.length)) (first | exact KC.out _ BB8.out | exact KC.out _ BB9.out | go_keep)
      ((first
        | (go_at_call 6; refine (toManifest_any _ _ _ ds _ (HR.out.below B7.out.drew) hn).mono ?_; rintro r w8 ⟨g8, rfl, -, R8, b8⟩; have R8 := hide R8; have BB8 := hide ((Below.refl w7.heap.size w7).drew.trans b8); clear b8)
        | (go_at_call 9; refine (eqManifest_same _ _ _ _ _ ds _ (R7.out.below BB8.out) R8.out hn).mono ?_; rintro r w9 ⟨rfl, b9⟩; have BB9 := hide (below_next BB8.out b9); clear b9)))
    go_wp2_with fail
    go_ret
    exact ⟨rfl, below_next B7.out BB9.out⟩
  · go_enter Try.func3, Try.ntmps3
    go_wp2_with fail
    refine (szManifest_not _ _ _ _ 1048576 _ (by decide) (by decide) (by omega) (by omega) (by omega)).mono ?_
    rintro r w1 ⟨rfl, b1⟩
    have B1 := hide (below_next B0.out b1)
    clear b1
    go_wp2_with fail
    go_ret
    exact ⟨rfl, B1.out⟩
set_option maxRecDepth 100000 in
set_option maxHeartbeats 800000 in
theorem lifted (os : Os) (started : os.Started) (H : Type) (enc : TypeId × Value → H) :
    ReturnsInHanded {} Try.checked os 3 .any (Rows.fnExactPackManifestSpec.pre6 enc Try.prog Try.f3 Rows.fnExactPackManifestRow.domain false) (Rows.fnExactPackManifestSpec.post enc Try.prog Try.f3 false true false false) := by
  refine returnsInHanded_of_change (C := Try.checked) own started (by kernel_rfl) Try.func3
    (ChangeSpec.witness6 (enc := enc) (C := Try.checked) false ⟨#[], #[.agg #[.string ⟨#[]⟩, .slice none 0 0]], []⟩ 8 (by kernel_rfl) (by kernel_rfl) (by kernel_rfl) (by kernel_rfl)) ?_
  intro W base args ds gs before hval0 hW hcnd _
  have hval : ∀ (j : Nat) t v, Try.f3.params[j]? = some t → args[j]? = some v → Value.okWide Try.prog W .any base t v := hval0
  have hW' := hW
  obtain ⟨p, q, hA0, hV, rfl, hfz, hnd⟩ := hW
  have hA : DataW.TrodAll enc Try.prog W 0 (fun _ => true) true Try.f3.params.toList args.toList ds p := hA0
  rw [Try.params3] at hA hval
  obtain ⟨v0, vs0, d0, ds0, p0, q0, hargs0, rfl, rfl, h0, r0⟩ := trodAll_cons hA
  obtain ⟨rfl, rfl, rfl⟩ := trodAll_nil r0
  obtain rfl : args = #[v0] := by cases args; simp_all
  obtain ⟨rfl, rfl⟩ := trodVars_none hV
  obtain ⟨cs0, rfl, -⟩ := okWide_struct Try.underlying24 (hval 0 24 v0 rfl rfl)
  have k0 := h0
  have lt0 : ∀ x ∈ p0, x.block < W.heap.size := by obtain ⟨m, hm⟩ := k0; exact DataW.trod_lt m _ _ _ hm
  obtain ⟨fuel0, hf0⟩ := h0
  obtain ⟨n0, e0, a0, cap0, hcs0, rd0, nl0, el0⟩ := man_of_trod (by simpa [Value.cells] using hf0)
  obtain rfl : cs0 = #[.string (str n0), .slice a0 e0.length cap0] := by cases cs0; simp_all
  clear hA0 hval0
  refine (walk W n0 e0 a0 cap0 rd0 nl0 el0).mono fun e W' ⟨he, bel⟩ => ?_
  subst he
  exact ⟨_, rfl, _, _, _, [], _, [], hW', trodAll_mk1 (shut_bool Try.underlying4 _), (trodAll_cons_mk (Below.trod laidOut (by kernel_rfl) (of_decide_eq_true (by kernel_rfl)) k0 bel lt0) trodAll_mk0), rfl, bel.frame _, fun h => by cases h⟩

theorem over : Rows.fnExactPackManifestRow.holds Try.pinned (OpenSpec.ofChange Rows.fnExactPackManifestSpec) :=
  OpenClaim.holds_of_wide 3 Try.f3 rfl rfl rfl rfl rfl rfl rfl ⟨rfl, rfl, rfl, rfl, rfl⟩ rfl rfl rfl rfl rfl (by kernel_rfl) Try.func3 (by kernel_rfl)
    (of_decide_eq_true (by kernel_rfl)) (by unfold Func.isWrapper; first | (rw [if_pos (by decide +kernel)]; kernel_rfl) | (rw [if_neg (by decide +kernel)]; exact ⟨rfl, rfl⟩))
    (fun os started H enc _ => lifted os started H enc)
end Go.Proofs.Ytokcibegjhfofal.packManifest
namespace Go.Proofs.Ytokcibegjhfofal
theorem fnExactPackManifest_holds : Rows.FnExactPackManifestSaid := packManifest.over
#print axioms fnExactPackManifest_holds
end Go.Proofs.Ytokcibegjhfofal
