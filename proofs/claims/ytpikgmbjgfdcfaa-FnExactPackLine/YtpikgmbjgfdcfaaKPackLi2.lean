/-
  At every string the law FnExactPackLine returns true: PackLine answers as its model does, and its answer owns its memory. No condition.
-/
import Derived.Test.YtpikgmbjgfdcfaaKPackLi1
import Derived.ProofKit
import Derived.OpenShut
import Derived.ShutString
namespace Go.Proofs.Ytpikgmbjgfdcfaa.packLine
open Go.ChangeShapes Go.WideShapes Go.ChangeAt Go.RowKit
open Go.ChangeMaps (open_string shut_string)
set_option linter.unusedVariables false

theorem own : ownKnob Try.prog.godebug = none := by kernel_rfl

set_option maxHeartbeats 8000000 in
theorem core (w : World) (s0 : ByteArray) (hl0 : s0.size ≤ 1048576) (q : Int) (zs : List Int) (hr : zs.length ≤ 1048576)
    (hs : (∀  (u : World),  Calls Try.prog 19 #[.string s0] u fun e w' => ∃ a' c', e = .returned (.agg #[.int .i64 q, .slice a' zs.length c']) ∧ GB u.heap.size w'.heap.size w' (.slice a' zs.length c') zs ∧ Below u.heap.size u w'))
    (hi : (∀  (u : World),  Calls Try.prog 17 #[.string s0] u fun e w' => ∃ a' c', e = .returned (.agg #[.int .i64 q, .slice a' zs.length c']) ∧ GB u.heap.size w'.heap.size w' (.slice a' zs.length c') zs ∧ Below u.heap.size u w')) :
    Calls Try.prog 4 #[.string s0] w fun e w' => e = .returned (.bool true) ∧ Below w.heap.size w w' := by
  have hb0 : ¬ (1048576 : Int) < (s0.size : Int) := by omega
  have HS := hide hs
  have HI := hide hi
  clear hs hi
  go_enter Try.func4, Try.ntmps4
  go_wp2_with fail
  refine (HS.out  _ ).mono ?_
  rintro e w1 ⟨ra1, rc1, rfl, rg1, b1⟩
  have n_1 : w.heap.size ≤ w1.heap.size := b1.size
  have B_1 := hide (below_next (Below.refl _ _) b1)
  have Dd_1 := hide rg1
  clear rg1
  clear b1
  go_wp2_with fail
  refine (HI.out  _ ).mono ?_
  rintro e w2 ⟨ra2, rc2, rfl, rg2, b2⟩
  have n_2 : w1.heap.size < w2.heap.size := by have := b2.size; simp at this; omega
  have Dd_2 := hide ((Dd_1.out.below (below_alloc _ _)).below b2)
  have T_2 := hide ((Two.new w1 (.int .i64 q) (.slice ra1 zs.length rc1) 39).below b2)
  have B_2 := hide (below_next (below_next B_1.out (below_alloc _ _)) b2)
  have Gg_2 := hide rg2
  clear rg2
  clear b2 Dd_1 B_1
  have ns2 : w1.heap.size < w2.heap.size := by omega
  obtain ⟨Tt0, Tt1⟩ := T_2.out
  go_wp2_with fail
  clear Tt0 Tt1
  refine (eqBytesResult_same q ra2 ra1 rc2 rc1 zs _ ((Gg_2.out.below (below_alloc _ _))).own.reads ((Dd_2.out.below (below_alloc _ _))).own.reads hr).mono ?_
  rintro e w3 ⟨rfl, b3⟩
  have n_3 : w2.heap.size < w3.heap.size := by have := b3.size; simp at this; omega
  have Dd_3 := hide ((Dd_2.out.below (below_alloc _ _)).below b3)
  have T_3 := hide ((T_2.out.below (below_alloc _ _)).below b3)
  have Gg_3 := hide ((Gg_2.out.below (below_alloc _ _)).below b3)
  have U_3 := hide ((Two.new w2 (.int .i64 q) (.slice ra2 zs.length rc2) 39).below b3)
  have B_3 := hide (below_next (below_next B_2.out (below_alloc _ _)) b3)
  clear b3 Dd_2 T_2 Gg_2 B_2
  obtain ⟨Ut0, Ut1⟩ := U_3.out
  go_wp2_with fail
  clear Ut0 Ut1
  refine (markBytesResult_any q _ _ ra2 rc2 zs 1 _ Gg_3.out (by decide) (by decide) hr).mono ?_
  rintro e w4 ⟨rfl, gm4, kk4⟩
  have gn4 := (show ∀ L, GB L w2.heap.size w4 (.slice ra2 zs.length rc2) (marks 1 zs.length) → GB L w2.heap.size w4 (.slice ra2 (marks 1 zs.length).length rc2) (marks 1 zs.length) from fun L h => by rw [marks_length]; exact h) _ gm4
  clear gm4
  have n_4 : w3.heap.size ≤ w4.heap.size := kk4.size
  have Dd_4 := hide (Dd_3.out.kept kk4 (fun b h1 h2 hS => by first | omega | ((try simp at h1); (try simp at hS); omega)))
  have T_4 := hide (T_3.out.kept kk4 (fun hS => by first | omega | (simp at hS; omega)))
  have Gg_4 := hide (gn4)
  have U_4 := hide (U_3.out.kept kk4 (fun hS => by first | omega | (simp at hS; omega)))
  have B_4 := hide (B_3.out.trans (kk4.below B_3.out.size (fun k hk hS => by first | omega | (simp at hS; omega))))
  clear kk4 Dd_3 T_3 Gg_3 U_3 B_3
  have hmv : ¬ ((1 : Int) + (zs.length : Int)) < 0 := by omega
  obtain ⟨Ut0, Ut1⟩ := U_4.out
  go_wp2_with fail
  clear Ut0 Ut1
  refine (heldBytesResult_any q ra2 rc2 zs.length 1 _ Gg_4.out.own.reads (by decide) (by decide) hr).mono ?_
  rintro e w5 ⟨rfl, b5⟩
  have n_5 : w4.heap.size ≤ w5.heap.size := b5.size
  have Dd_5 := hide (Dd_4.out.below b5)
  have T_5 := hide (T_4.out.below b5)
  have Gg_5 := hide (Gg_4.out.below b5)
  have U_5 := hide (U_4.out.below b5)
  have B_5 := hide (below_next B_4.out b5)
  clear b5 Dd_4 T_4 Gg_4 U_4 B_4
  go_wp2_with fail
  refine (HI.out  _ ).mono ?_
  rintro e w6 ⟨ra6, rc6, rfl, rg6, b6⟩
  have n_6 : w5.heap.size ≤ w6.heap.size := b6.size
  have Dd_6 := hide (Dd_5.out.below b6)
  have T_6 := hide (T_5.out.below b6)
  have Gg_6 := hide (Gg_5.out.below b6)
  have U_6 := hide (U_5.out.below b6)
  have B_6 := hide (below_next B_5.out b6)
  have Hh_6 := hide rg6
  clear rg6
  clear b6 Dd_5 T_5 Gg_5 U_5 B_5
  have nt6 : w1.heap.size < w6.heap.size := by omega
  have nu6 : w2.heap.size < w6.heap.size := by omega
  obtain ⟨Tt0, Tt1⟩ := T_6.out
  go_wp2_with fail
  clear Tt0 Tt1
  refine (eqBytesResult_same q ra6 ra1 rc6 rc1 zs _ ((Hh_6.out.below (below_alloc _ _))).own.reads ((Dd_6.out.below (below_alloc _ _))).own.reads hr).mono ?_
  rintro e w7 ⟨rfl, b7⟩
  have n_7 : w6.heap.size < w7.heap.size := by have := b7.size; simp at this; omega
  have Dd_7 := hide ((Dd_6.out.below (below_alloc _ _)).below b7)
  have T_7 := hide ((T_6.out.below (below_alloc _ _)).below b7)
  have Gg_7 := hide ((Gg_6.out.below (below_alloc _ _)).below b7)
  have U_7 := hide ((U_6.out.below (below_alloc _ _)).below b7)
  have Hh_7 := hide ((Hh_6.out.below (below_alloc _ _)).below b7)
  have Q_7 := hide ((Two.new w6 (.int .i64 q) (.slice ra6 zs.length rc6) 39).below b7)
  have B_7 := hide (below_next (below_next B_6.out (below_alloc _ _)) b7)
  clear b7 Dd_6 T_6 Gg_6 U_6 Hh_6 B_6
  obtain ⟨Ut0, Ut1⟩ := U_7.out
  go_wp2_with fail
  clear Ut0 Ut1
  refine (heldBytesResult_any q ra2 rc2 zs.length 1 _ Gg_7.out.own.reads (by decide) (by decide) hr).mono ?_
  rintro e w8 ⟨rfl, b8⟩
  have n_8 : w7.heap.size ≤ w8.heap.size := b8.size
  have Dd_8 := hide (Dd_7.out.below b8)
  have T_8 := hide (T_7.out.below b8)
  have Gg_8 := hide (Gg_7.out.below b8)
  have U_8 := hide (U_7.out.below b8)
  have Hh_8 := hide (Hh_7.out.below b8)
  have Q_8 := hide (Q_7.out.below b8)
  have B_8 := hide (below_next B_7.out b8)
  clear b8 Dd_7 T_7 Gg_7 U_7 Hh_7 Q_7 B_7
  go_wp2_with fail
  go_ret
  exact ⟨rfl, B_8.out⟩


theorem walk (s : ByteArray) (w : World) :
    Calls Try.prog 4 #[.string s] w fun e w' => e = .returned (.bool true) ∧ Below w.heap.size w w' := by
  by_cases hbig : (1048576 : Int) < (s.size : Int)
  · go_enter Try.func4, Try.ntmps4
    go_wp2
    go_ret
    exact ⟨rfl, Below.refl _ _⟩
  · by_cases h0 : lineF s.data.toList = 0
    · exact core w s (by omega) 0 (packZ s.data.toList) (by rw [packZ_len, line_len]; have := lineF_size h0; omega) (fun u => specPackLine_ok s u h0) (fun u => implPackLine_ok s u h0)
    · exact core w s (by omega) (lineF s.data.toList) [] (by simp) (fun u => specPackLine_bad s u (by omega) h0) (fun u => implPackLine_bad s u (by omega) h0)

set_option maxRecDepth 100000 in
theorem lifted (os : Os) (started : os.Started) (H : Type) (enc : TypeId × Value → H) :
    ReturnsInHanded {} Try.checked os 4 .any (Rows.fnExactPackLineSpec.pre6 enc Try.prog Try.f4 Rows.fnExactPackLineRow.domain false) (Rows.fnExactPackLineSpec.post enc Try.prog Try.f4 false true false false) := by
  refine returnsInHanded_of_change (C := Try.checked) own started (by kernel_rfl) Try.func4
    (ChangeSpec.witness6 (enc := enc) (C := Try.checked) false ⟨#[], #[.string ⟨#[]⟩], []⟩ 8 (by kernel_rfl) (by kernel_rfl) (by kernel_rfl) (by kernel_rfl)) ?_
  intro W base args ds gs before hval0 hW hcnd _
  have hval : ∀ (j : Nat) t v, Try.f4.params[j]? = some t → args[j]? = some v → Value.okWide Try.prog W .any base t v := hval0
  have hW' := hW
  obtain ⟨p, q, hA0, hV, rfl, hfz, hnd⟩ := hW
  have hA : DataW.TrodAll enc Try.prog W 0 (fun _ => true) true Try.f4.params.toList args.toList ds p := hA0
  rw [Try.params4] at hA hval
  obtain ⟨v0, vs0, d0, ds0, p0, q0, hargs, rfl, rfl, h0, r0⟩ := trodAll_cons hA
  obtain ⟨rfl, rfl, rfl⟩ := trodAll_nil r0
  obtain rfl : args = #[v0] := by cases args; simp_all
  obtain ⟨rfl, rfl⟩ := trodVars_none hV
  obtain ⟨s, rfl, rfl, rfl, hs⟩ := open_string Try.underlying9 (hval 0 9 v0 rfl rfl) h0
  clear hA0 hval0
  simp only [List.append_nil] at hW'
  refine (walk s W).mono fun e W' ⟨he, bel⟩ => ?_
  subst he
  exact ⟨_, rfl, _, _, _, [], [], [], hW', trodAll_mk1 (shut_bool Try.underlying4 _), (trodAll_cons_mk (shut_string Try.underlying9 hs) trodAll_mk0), rfl, bel.frame _, fun h => by cases h⟩

theorem over : Rows.fnExactPackLineRow.holds Try.pinned (OpenSpec.ofChange Rows.fnExactPackLineSpec) :=
  OpenClaim.holds_of_wide 4 Try.f4 rfl rfl rfl rfl rfl rfl rfl ⟨rfl, rfl, rfl, rfl, rfl⟩ rfl rfl rfl rfl rfl (by kernel_rfl) Try.func4 (by kernel_rfl)
    (of_decide_eq_true (by kernel_rfl)) (by unfold Func.isWrapper; first | (rw [if_pos (by decide +kernel)]; kernel_rfl) | (rw [if_neg (by decide +kernel)]; exact ⟨rfl, rfl⟩))
    (fun os started H enc _ => lifted os started H enc)

end Go.Proofs.Ytpikgmbjgfdcfaa.packLine
namespace Go.Proofs.Ytpikgmbjgfdcfaa
theorem fnExactPackLine_holds : Rows.FnExactPackLineSaid := packLine.over
#print axioms fnExactPackLine_holds
end Go.Proofs.Ytpikgmbjgfdcfaa

