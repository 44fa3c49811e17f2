/-
  At every list of layers and every list of chunks the law FnExactIsWhole returns true: IsWhole answers as its model does and leaves its arguments alone. No condition.
-/
import Derived.Test.YtejipahfodhmjaaGreatKIsWhol11
import Derived.Test.YtejipahfodhmjaaGreatKIsWhol13
import Derived.ProofKit
import Derived.OpenShut
import Derived.ShutString
import Derived.ChangeOld
namespace Go.Proofs.YtejipahfodhmjaaGreat.isWhole
open Go.ChangeShapes Go.WideShapes Go.ChangeAt Go.RowKit
set_option linter.unusedVariables false

theorem own : ownKnob Tryz.prog.godebug = none := by kernel_rfl
theorem laidOut : laidOutB Tryz.prog = true := by kernel_rfl

set_option maxRecDepth 100000 in
set_option maxHeartbeats 4000000 in
theorem walk (w : World) (a0 : Option Addr) (c0 : Nat) (ls : List (List En)) (h0 : RdL w a0 ls) (m0 : ls.length ≤ maxLen) (i0 : ∀ es ∈ ls, es.length ≤ maxLen ∧ ∀ e ∈ es, e.path.length ≤ maxLen ∧ e.chunks.length ≤ maxLen)
    (a1 : Option Addr) (n c1 : Nat) (D : Nat → Int) (P : Nat → List Int) (h1 : RdC w a1 D P n) (m1 : n ≤ maxLen) (i1 : ∀ i, i < n → (Lit.int .i64 (D i)).wf = true ∧ U8 (P i) ∧ (P i).length ≤ maxLen) :
    Calls Tryz.prog 6 #[.slice a0 ls.length c0, .slice a1 n c1] w fun r w' => r = .returned (.bool true) ∧ Below w.heap.size w w' := by
  unfold maxLen at m0 m1 i0 i1
  have HA := hide h0
  have HB := hide h1
  clear h0 h1
  by_cases hfit : (ls.length : Int) + (szL ls : Int) ≤ 1048576
  · have hleft : ¬ ((1048576 : Int) - ls.length - szL ls) < 0 := by omega
    by_cases hfit2 : (n : Int) + (ahead P n : Int) ≤ (1048576 : Int) - ls.length - szL ls
    · have hleft2 : ¬ ((1048576 : Int) - ls.length - szL ls - n - ahead P n) < 0 := by omega
      have hl : ls.length ≤ 1048576 := by omega
      have hn : n ≤ 1048576 := by omega
      have HS := hide (szL_small (ls := ls) (by omega))
      have HP := hide (show ∀ i, i < n → U8 (P i) ∧ (P i).length ≤ 1048576 from fun i hi => ⟨(i1 i hi).2.1, by have := ahead_le P (i := i + 1) (j := n) (by omega); simp only [ahead] at this; omega⟩)
      have HPl := hide (fun i hi => (HP.out i hi).2)
      clear i0 i1
      go_enter Tryz.func6, Tryz.ntmps6
      go_wp2_with fail
      refine (szEntrySS_fits a0 c0 ls.length ls 1048576 _ HA.out rfl (by decide) hfit).mono ?_
      rintro r w1 ⟨rfl, b1⟩
      have B1 := hide b1
      clear b1
      go_wp2_with fail
      refine (szChunkS_fits a1 c1 n D P _ _ (HB.out.below B1.out) (by omega) hfit2).mono ?_
      rintro r w2 ⟨rfl, b2⟩
      have B2 := hide (below_next B1.out b2)
      clear b2 B1
      go_wp2_with fail
      refine (toEntrySS_any a0 c0 ls.length ls _ (HA.out.below B2.out) rfl hl HS.out).mono ?_
      rintro r w3 ⟨g3, rfl, r3, b3⟩
      have R3 := hide r3
      have B3 := hide (below_next B2.out b3)
      clear b3 B2 r3
      go_wp2_with fail
      refine (toChunkS_any a1 c1 n D P _ (HB.out.below B3.out) hn HPl.out).mono ?_
      rintro r w4 ⟨g4, rfl, -, r4, b4⟩
      have R4 := hide (GC.rd r4)
      have R3' := hide (R3.out.below b4)
      have B4 := hide (below_next B3.out b4)
      clear b4 B3 r4 R3
      go_wp2_with fail
      refine (specIsWhole_any _ _ ls.length ls _ _ n D P _ R3'.out rfl hl HS.out R4.out hn HP.out).mono ?_
      rintro r w5 ⟨rfl, b5⟩
      have B5 := hide (below_next B4.out b5)
      clear b5 B4 R3' R4
      generalize hZ : wholeB ls D P n = Z
      have HZ := hide hZ
      clear hZ
      go_wp2_with fail
      refine (toEntrySS_any a0 c0 ls.length ls _ (HA.out.below B5.out) rfl hl HS.out).mono ?_
      rintro r w6 ⟨g6, rfl, r6, b6⟩
      have R6 := hide r6
      have B6 := hide (below_next B5.out b6)
      clear b6 B5 r6
      go_wp2_with fail
      refine (toChunkS_any a1 c1 n D P _ (HB.out.below B6.out) hn HPl.out).mono ?_
      rintro r w7 ⟨g7, rfl, -, r7, b7⟩
      have R7 := hide (GC.rd r7)
      have R6' := hide (R6.out.below b7)
      have B7 := hide (below_next B6.out b7)
      clear b7 B6 r7 R6
      go_wp2_with fail
      refine (implIsWhole_any _ _ ls.length ls _ _ n D P _ R6'.out rfl hl HS.out R7.out hn HP.out).mono ?_
      rintro r w8 ⟨rfl, b8⟩
      rw [HZ.out]
      have R6'' := hide (R6'.out.below b8)
      have R7' := hide (R7.out.below b8)
      have B8 := hide (below_next B7.out b8)
      clear b8 B7 R6' R7
      have hzz : (Z != Z) = false := by simp
      go_wp2_with fail
      refine (toEntrySS_any a0 c0 ls.length ls _ (HA.out.below B8.out) rfl hl HS.out).mono ?_
      rintro r w9 ⟨g9, rfl, r9, b9⟩
      have R9 := hide r9
      have R69 := hide (R6''.out.below b9)
      have R79 := hide (R7'.out.below b9)
      have B9 := hide (below_next B8.out b9)
      clear b9 B8 r9 R6'' R7'
      go_wp2_with fail
      refine (eqEntrySS_same _ _ _ _ ls.length ls _ R69.out R9.out rfl hl HS.out).mono ?_
      rintro r w10 ⟨rfl, b10⟩
      have R710 := hide (R79.out.below b10)
      have B10 := hide (below_next B9.out b10)
      clear b10 B9 R69 R9 R79
      go_wp2_with fail
      refine (toChunkS_any a1 c1 n D P _ (HB.out.below B10.out) hn HPl.out).mono ?_
      rintro r w11 ⟨g11, rfl, -, r11, b11⟩
      have R11 := hide (GC.rd r11)
      have R711 := hide (R710.out.below b11)
      have B11 := hide (below_next B10.out b11)
      clear b11 B10 r11 R710
      go_wp2_with fail
      refine (eqChunkS_same _ _ _ _ n D P _ R711.out R11.out hn HPl.out).mono ?_
      rintro r w12 ⟨rfl, b12⟩
      have B12 := hide (below_next B11.out b12)
      clear b12 B11
      go_wp2_with fail
      go_ret
      exact ⟨rfl, B12.out⟩
    · go_enter Tryz.func6, Tryz.ntmps6
      go_wp2_with fail
      refine (szEntrySS_fits a0 c0 ls.length ls 1048576 _ HA.out rfl (by decide) hfit).mono ?_
      rintro r w1 ⟨rfl, b1⟩
      have B1 := hide b1
      clear b1
      go_wp2_with fail
      refine (szChunkS_not a1 c1 n D P _ _ (HB.out.below B1.out) (by omega) (by omega) (by omega) (fun i hi => by have := (i1 i hi).2.2; omega) (by omega)).mono ?_
      rintro r w2 ⟨rfl, b2⟩
      have B2 := hide (below_next B1.out b2)
      clear b2
      go_wp2_with fail
      go_ret
      exact ⟨rfl, B2.out⟩
  · go_enter Tryz.func6, Tryz.ntmps6
    go_wp2_with fail
    refine (szEntrySS_not a0 c0 ls.length ls 1048576 _ HA.out rfl (by decide) (by decide) (by omega) (fun es he => ⟨by have := (i0 es he).1; omega, fun e hee => by have := (i0 es he).2 e hee; omega⟩) (by omega)).mono ?_
    rintro r w1 ⟨rfl, b1⟩
    have B1 := hide b1
    clear b1
    go_wp2_with fail
    go_ret
    exact ⟨rfl, B1.out⟩
set_option maxRecDepth 100000 in
set_option maxHeartbeats 800000 in
theorem lifted (os : Os) (started : os.Started) (H : Type) (enc : TypeId × Value → H) :
    ReturnsInHanded {} Tryz.checked os 6 .any (Rows.fnExactIsWholeSpec.pre6 enc Tryz.prog Tryz.f6 Rows.fnExactIsWholeRow.domain false) (Rows.fnExactIsWholeSpec.post enc Tryz.prog Tryz.f6 false true false false) := by
  refine returnsInHanded_of_change (C := Tryz.checked) own started (by kernel_rfl) Tryz.func6
    (ChangeSpec.witness6 (enc := enc) (C := Tryz.checked) false ⟨#[], #[.slice none 0 0, .slice none 0 0], []⟩ 8 (by kernel_rfl) (by kernel_rfl) (by kernel_rfl) (by kernel_rfl)) ?_
  intro W base args ds gs before hval0 hW hcnd _
  have hval : ∀ (j : Nat) t v, Tryz.f6.params[j]? = some t → args[j]? = some v → Value.okWide Tryz.prog W .any base t v := hval0
  have hW' := hW
  obtain ⟨p, q, hA0, hV, rfl, hfz, hnd⟩ := hW
  have hA : DataW.TrodAll enc Tryz.prog W 0 (fun _ => true) true Tryz.f6.params.toList args.toList ds p := hA0
  rw [Tryz.params6] at hA hval
  obtain ⟨v0, vs0, d0, ds0, p0, q0, hargs0, rfl, rfl, h0, r0⟩ := trodAll_cons hA
  obtain ⟨v1, vs1, d1, ds1, p1, q1, hargs1, rfl, rfl, h1, r1⟩ := trodAll_cons r0
  obtain ⟨rfl, rfl, rfl⟩ := trodAll_nil r1
  obtain rfl : args = #[v0, v1] := by cases args; simp_all
  obtain ⟨rfl, rfl⟩ := trodVars_none hV
  obtain ⟨a0, len0, cap0, rfl⟩ := okWide_slice Tryz.underlying55 (hval 0 55 v0 rfl rfl)
  have k0 := h0
  have lt0 : ∀ x ∈ p0, x.block < W.heap.size := by obtain ⟨m, hm⟩ := k0; exact DataW.trod_lt m _ _ _ hm
  obtain ⟨fuel0, hf0⟩ := h0
  obtain ⟨ls0, hlen0, rd0, mx0, in0⟩ := layers_of_trod (by simpa [Value.cells] using hf0)
  subst hlen0
  obtain ⟨a1, len1, cap1, rfl⟩ := okWide_slice Tryz.underlying56 (hval 1 56 v1 rfl rfl)
  have k1 := h1
  have lt1 : ∀ x ∈ p1, x.block < W.heap.size := by obtain ⟨m, hm⟩ := k1; exact DataW.trod_lt m _ _ _ hm
  obtain ⟨fuel1, hf1⟩ := h1
  obtain ⟨D1, P1, rd1, mx1, in1⟩ := rdC_of_trod (by simpa [Value.cells] using hf1)
  clear hA0 hval0
  refine (walk W a0 cap0 ls0 rd0 mx0 in0 a1 len1 cap1 D1 P1 rd1 mx1 in1).mono fun e W' ⟨he, bel⟩ => ?_
  subst he
  exact ⟨_, rfl, _, _, _, [], _, [], hW', trodAll_mk1 (shut_bool Tryz.underlying4 _), (trodAll_cons_mk (Below.trod laidOut (by kernel_rfl) (of_decide_eq_true (by kernel_rfl)) k0 bel lt0) (trodAll_cons_mk (Below.trod laidOut (by kernel_rfl) (of_decide_eq_true (by kernel_rfl)) k1 bel lt1) trodAll_mk0)), rfl, bel.frame _, fun h => by cases h⟩

theorem over : Rows.fnExactIsWholeRow.holds Tryz.pinned (OpenSpec.ofChange Rows.fnExactIsWholeSpec) :=
  OpenClaim.holds_of_wide 6 Tryz.f6 rfl rfl rfl rfl rfl rfl rfl ⟨rfl, rfl, rfl, rfl, rfl⟩ rfl rfl rfl rfl rfl (by kernel_rfl) Tryz.func6 (by kernel_rfl)
    (of_decide_eq_true (by kernel_rfl)) (by unfold Func.isWrapper; first | (rw [if_pos (by decide +kernel)]; kernel_rfl) | (rw [if_neg (by decide +kernel)]; exact ⟨rfl, rfl⟩))
    (fun os started H enc _ => lifted os started H enc)
end Go.Proofs.YtejipahfodhmjaaGreat.isWhole
namespace Go.Proofs.YtejipahfodhmjaaGreat
theorem fnExactIsWhole_holds : Rows.FnExactIsWholeSaid := isWhole.over
#print axioms fnExactIsWhole_holds
end Go.Proofs.YtejipahfodhmjaaGreat

