/-
  At every fetch the law FnExactFetchFault returns true: FetchFault answers as its model does and leaves its argument alone. No condition.
-/
import Derived.Test.YtngoikgopnnneaaKFetchF4
import Derived.ProofKit
import Derived.OpenShut
import Derived.ShutString
import Derived.ChangeOld
namespace Go.Proofs.Ytngoikgopnnneaa.fetchFault
open Go.ChangeShapes Go.WideShapes Go.ChangeAt Go.RowKit Go.Maps
set_option linter.unusedVariables false

theorem own : ownKnob Try.prog.godebug = none := by kernel_rfl
theorem laidOut : laidOutB Try.prog = true := by kernel_rfl

set_option maxRecDepth 100000 in
set_option maxHeartbeats 4000000 in
theorem walk (w : World) (wa : Option Addr) (wc : Nat) (W : List Wn) (fa : Option Addr) (fc : Nat) (F : List Int) (ca : Option Addr) (cc n : Nat) (D : Nat → Int) (P : Nat → List Int) (h : RdF w wa W fa F ca D P n) (hmax : W.length ≤ maxLen ∧ F.length ≤ maxLen ∧ n ≤ maxLen) (hin : ∀ i, i < n → (Lit.int .i64 (D i)).wf = true ∧ U8 (P i) ∧ (P i).length ≤ maxLen) :
    Calls Try.prog 3 #[.agg #[.slice wa W.length wc, .slice fa F.length fc, .slice ca n cc]] w fun e w' => e = .returned (.bool true) ∧ Below w.heap.size w w' := by
  have B0 := hide (below_alloc w (.cells #[.slice wa W.length wc, .slice fa F.length fc, .slice ca n cc] 26))
  have X0 := hide (Bx3.new w (.slice wa W.length wc) (.slice fa F.length fc) (.slice ca n cc) 26)
  by_cases hfit : (W.length : Int) + F.length + n + ahead P n ≤ 1048576
  · have hW : W.length ≤ 1048576 := by omega
    have hF : F.length ≤ 1048576 := by omega
    have hn : n ≤ 1048576 := by omega
    have hP : SmallP P n := fun i hi => ⟨(hin i hi).2.1, by have := ahead_le P (i := i + 1) (j := n) (by omega); simp only [ahead] at this; omega⟩
    have HP := hide hP
    have HPl := hide (fun i hi => (hP i hi).2)
    have HS := hide (szFetch_fits wa wc W fa fc F ca cc n D P _ (h.below B0.out) hfit)
    have HR := hide h
    have hleft : ¬ (1048576 : Int) - W.length - F.length - n - ahead P n < 0 := by omega
    unfold fetV at HS
    clear h hP hin hmax
    go_enter Try.func3, Try.ntmps3
    obtain ⟨⟨t0, t1, t2⟩, -, -, -⟩ := X0.out
    go_wp2_with fail
    clear t0 t1 t2
    generalize w.alloc (.cells #[.slice wa W.length wc, .slice fa F.length fc, .slice ca n cc] 26) = W0 at *
    refine HS.out.mono ?_
    rintro e w1 ⟨rfl, b1⟩
    have B1 := hide (below_next B0.out b1)
    have X1 := hide (X0.out.below b1)
    clear b1 B0 X0 HS
    obtain ⟨⟨t0, t1, t2⟩, -, -, -⟩ := X1.out
    have HT := hide (fun (u : World) (hu : Below w.heap.size w u) => toFetch_any wa wc W fa fc F ca cc n D P u (HR.out.below hu) hW hF hn HPl.out)
    unfold fetV at HT
    go_wp2_with fail
    clear t0 t1 t2
    refine (HT.out w1 B1.out).mono ?_
    rintro e w2 ⟨g1, g2, g3, rfl, hr2, b2⟩
    have X2 := hide (X1.out.below b2)
    have B2 := hide (below_next B1.out b2)
    have HSF := hide (specFetchFault_any (some ⟨g1, 0, none⟩) W.length W (some ⟨g2, 0, none⟩) F.length F (some ⟨g3, 0, none⟩) n n D P w2 hr2 hn HP.out hW hF (Nat.le_refl _))
    unfold fetV at HSF
    clear b2 hr2 X1 B1
    go_wp2_with fail
    refine HSF.out.mono ?_
    rintro e w3 ⟨rfl, b3⟩
    have X3 := hide (X2.out.below b3)
    have B3 := hide (below_next B2.out b3)
    clear b3 X2 B2 HSF
    generalize hA : fetFault W F D P n = A
    have HA := hide hA
    clear hA
    obtain ⟨⟨t0, t1, t2⟩, -, -, -⟩ := X3.out
    go_wp2_with fail
    clear t0 t1 t2
    refine (HT.out w3 B3.out).mono ?_
    rintro e w4 ⟨h1, h2, h3, rfl, hr4, b4⟩
    have A4 := hide (below_alloc w4 (.cells #[.slice (some ⟨h1, 0, none⟩) W.length W.length, .slice (some ⟨h2, 0, none⟩) F.length F.length, .slice (some ⟨h3, 0, none⟩) n n] 32))
    have Y4 := hide (Bx3.new w4 (.slice (some ⟨h1, 0, none⟩) W.length W.length) (.slice (some ⟨h2, 0, none⟩) F.length F.length) (.slice (some ⟨h3, 0, none⟩) n n) 32)
    have R4 := hide (hr4.below A4.out)
    have X4 := hide (X3.out.below (below_next b4 A4.out))
    have B4 := hide (below_next B3.out (below_next b4 A4.out))
    clear b4 hr4 X3 B3 A4
    have HIF := hide (implFetchFault_any (some ⟨h1, 0, none⟩) W.length W (some ⟨h2, 0, none⟩) F.length F (some ⟨h3, 0, none⟩) n n D P _ R4.out hn HP.out hW hF)
    unfold fetV at HIF
    rw [HA.out] at HIF
    obtain ⟨⟨t0, t1, t2⟩, -, -, -⟩ := Y4.out
    go_wp2_with fail
    clear t0 t1 t2
    generalize w4.alloc (.cells #[.slice (some ⟨h1, 0, none⟩) W.length W.length, .slice (some ⟨h2, 0, none⟩) F.length F.length, .slice (some ⟨h3, 0, none⟩) n n] 32) = W4 at *
    generalize w4.heap.size = b4 at *
    refine HIF.out.mono ?_
    rintro e w5 ⟨rfl, b5⟩
    have X5 := hide (X4.out.below b5)
    have Y5 := hide (Y4.out.below b5)
    have R5 := hide (R4.out.below b5)
    have B5 := hide (below_next B4.out b5)
    clear b5 X4 Y4 R4 B4 HIF
    have hne : (A != A) = false := by simp
    have KB : Hid (∀ u : World, Below w5.heap.size w5 u → (u.cell? ⟨b4, 0, none⟩ = some (.slice (some ⟨h1, 0, none⟩) W.length W.length) ∧ u.cell? ⟨b4, 1, none⟩ = some (.slice (some ⟨h2, 0, none⟩) F.length F.length) ∧ u.cell? ⟨b4, 2, none⟩ = some (.slice (some ⟨h3, 0, none⟩) n n)) ∧ u.cell? ⟨w.heap.size, 0, none⟩ = some (.slice wa W.length wc) ∧ u.cell? ⟨w.heap.size, 1, none⟩ = some (.slice fa F.length fc) ∧ u.cell? ⟨w.heap.size, 2, none⟩ = some (.slice ca n cc)) := hide (fun u hu => ⟨(Y5.out.below hu).1, (X5.out.below hu).1⟩)
    have HEQ : Hid (∀ (k1 k2 k3 : Nat) (u : World), RdF u (some ⟨k1, 0, none⟩) W (some ⟨k2, 0, none⟩) F (some ⟨k3, 0, none⟩) D P n → Below w5.heap.size w5 u → Calls Try.prog 8 #[.agg #[.slice (some ⟨h1, 0, none⟩) W.length W.length, .slice (some ⟨h2, 0, none⟩) F.length F.length, .slice (some ⟨h3, 0, none⟩) n n], .agg #[.slice (some ⟨k1, 0, none⟩) W.length W.length, .slice (some ⟨k2, 0, none⟩) F.length F.length, .slice (some ⟨k3, 0, none⟩) n n]] u fun e w' => e = .returned (.bool true) ∧ Below u.heap.size u w') := hide (fun k1 k2 k3 u hr hu => by
      have := eqFetch_same (some ⟨h1, 0, none⟩) (some ⟨k1, 0, none⟩) W.length W.length W (some ⟨h2, 0, none⟩) (some ⟨k2, 0, none⟩) F.length F.length F (some ⟨h3, 0, none⟩) (some ⟨k3, 0, none⟩) n n n D P u (R5.out.below hu) hr hW hF hn HPl.out
      unfold fetV at this
      exact this)
    clear X5 Y5 R5
    go_wp2_with fail
    obtain ⟨⟨q0, q1, q2⟩, q3, q4, q5⟩ := KB.out w5 (Below.refl _ _)
    go_region_held3 (fun u => (u.cell? ⟨b4, 0, none⟩ = some (.slice (some ⟨h1, 0, none⟩) W.length W.length) ∧ u.cell? ⟨b4, 1, none⟩ = some (.slice (some ⟨h2, 0, none⟩) F.length F.length) ∧ u.cell? ⟨b4, 2, none⟩ = some (.slice (some ⟨h3, 0, none⟩) n n)) ∧ u.cell? ⟨w.heap.size, 0, none⟩ = some (.slice wa W.length wc) ∧ u.cell? ⟨w.heap.size, 1, none⟩ = some (.slice fa F.length fc) ∧ u.cell? ⟨w.heap.size, 2, none⟩ = some (.slice ca n cc)) (first | exact KB.out _ BB2.out | exact KB.out _ BB1.out | exact KB.out _ (Below.refl _ _).drew | go_keep)
      ((first
        | (go_at_call 6; refine (HT.out _ (below_next B5.out (Below.refl _ _).drew)).mono ?_; rintro r w6 ⟨k1, k2, k3, rfl, hr6, hb6⟩; have BB1 := hide ((Below.refl w5.heap.size w5).drew.trans hb6); have R6 := hide hr6; clear hr6 hb6)
        | (go_at_call 8; refine (HEQ.out k1 k2 k3 _ R6.out BB1.out).mono ?_; rintro r w7 ⟨rfl, hb7⟩; have BB2 := hide (below_next BB1.out hb7); clear hb7)))
    go_wp2_with fail
    go_ret
    exact ⟨rfl, below_next B5.out BB2.out⟩
  · have HS := hide (szFetch_not wa wc W fa fc F ca cc n D P _ (h.below B0.out) hmax.1 hmax.2.1 hmax.2.2 (fun i hi => by have := (hin i hi).2.2; unfold maxLen at this; omega) hfit)
    unfold fetV at HS
    clear h hin hmax hfit
    go_enter Try.func3, Try.ntmps3
    obtain ⟨⟨t0, t1, t2⟩, -, -, -⟩ := X0.out
    go_wp2_with fail
    refine HS.out.mono ?_
    rintro e w1 ⟨rfl, b1⟩
    have B1 := hide (below_next B0.out b1)
    clear b1 t0 t1 t2
    go_wp2_with fail
    go_ret
    exact ⟨rfl, B1.out⟩
set_option maxRecDepth 100000 in
set_option maxHeartbeats 800000 in
theorem lifted (os : Os) (started : os.Started) (H : Type) (enc : TypeId × Value → H) :
    ReturnsInHanded {} Try.checked os 3 .any (Rows.fnExactFetchFaultSpec.pre6 enc Try.prog Try.f3 Rows.fnExactFetchFaultRow.domain false) (Rows.fnExactFetchFaultSpec.post enc Try.prog Try.f3 false true false false) := by
  refine returnsInHanded_of_change (C := Try.checked) own started (by kernel_rfl) Try.func3
    (ChangeSpec.witness6 (enc := enc) (C := Try.checked) false ⟨#[], #[.agg #[.slice none 0 0, .slice none 0 0, .slice none 0 0]], []⟩ 8 (by kernel_rfl) (by kernel_rfl) (by kernel_rfl) (by kernel_rfl)) ?_
  intro W base args ds gs before hval0 hW hcnd _
  have hval : ∀ (j : Nat) t v, Try.f3.params[j]? = some t → args[j]? = some v → Value.okWide Try.prog W .any base t v := hval0
  have hW' := hW
  obtain ⟨p, q, hA0, hV, rfl, hfz, hnd⟩ := hW
  have hA : DataW.TrodAll enc Try.prog W 0 (fun _ => true) true Try.f3.params.toList args.toList ds p := hA0
  rw [Try.params3] at hA hval
  obtain ⟨v0, vs0, d0, ds0, p0, q0, hargs0, rfl, rfl, h0, r0⟩ := trodAll_cons hA
  obtain ⟨rfl, rfl, rfl⟩ := trodAll_nil r0
  obtain rfl : args = #[v0] := by cases args; simp_all
  obtain ⟨rfl, rfl⟩ := trodVars_none hV
  obtain ⟨cs0, rfl, -⟩ := okWide_struct Try.underlying26 (hval 0 26 v0 rfl rfl)
  have k0 := h0
  have lt0 : ∀ x ∈ p0, x.block < W.heap.size := by obtain ⟨m, hm⟩ := k0; exact DataW.trod_lt m _ _ _ hm
  obtain ⟨fuel0, hf0⟩ := h0
  obtain ⟨wa0, wc0, Ws0, fa0, fc0, F0, ca0, cc0, n0, D0, P0, hcs0, rd0, mx0, in0⟩ := fetch_of_trod (by simpa [Value.cells] using hf0)
  obtain rfl : cs0 = #[.slice wa0 Ws0.length wc0, .slice fa0 F0.length fc0, .slice ca0 n0 cc0] := by cases cs0; simp_all
  clear hA0 hval0
  refine (walk W wa0 wc0 Ws0 fa0 fc0 F0 ca0 cc0 n0 D0 P0 rd0 mx0 in0).mono fun e W' ⟨he, bel⟩ => ?_
  subst he
  exact ⟨_, rfl, _, _, _, [], _, [], hW', trodAll_mk1 (shut_bool Try.underlying4 _), (trodAll_cons_mk (Below.trod laidOut (by kernel_rfl) (of_decide_eq_true (by kernel_rfl)) k0 bel lt0) trodAll_mk0), rfl, bel.frame _, fun h => by cases h⟩

theorem over : Rows.fnExactFetchFaultRow.holds Try.pinned (OpenSpec.ofChange Rows.fnExactFetchFaultSpec) :=
  OpenClaim.holds_of_wide 3 Try.f3 rfl rfl rfl rfl rfl rfl rfl ⟨rfl, rfl, rfl, rfl, rfl⟩ rfl rfl rfl rfl rfl (by kernel_rfl) Try.func3 (by kernel_rfl)
    (of_decide_eq_true (by kernel_rfl)) (by unfold Func.isWrapper; first | (rw [if_pos (by decide +kernel)]; kernel_rfl) | (rw [if_neg (by decide +kernel)]; exact ⟨rfl, rfl⟩))
    (fun os started H enc _ => lifted os started H enc)
end Go.Proofs.Ytngoikgopnnneaa.fetchFault
namespace Go.Proofs.Ytngoikgopnnneaa
theorem fnExactFetchFault_holds : Rows.FnExactFetchFaultSaid := fetchFault.over
#print axioms fnExactFetchFault_holds
end Go.Proofs.Ytngoikgopnnneaa

