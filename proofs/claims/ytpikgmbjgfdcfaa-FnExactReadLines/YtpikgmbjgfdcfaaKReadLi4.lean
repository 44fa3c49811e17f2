/-
  At every list of bytes the law FnExactReadLines returns true: ReadLines answers as its model does, and its answer owns its memory. No condition.
-/
import Derived.Test.YtpikgmbjgfdcfaaKReadLi3
import Derived.ProofKit
import Derived.OpenShut
import Derived.ChangeOld
namespace Go.Proofs.Ytpikgmbjgfdcfaa.readLines
open Go.ChangeShapes Go.WideShapes Go.ChangeAt Go.RowKit
set_option linter.unusedVariables false

theorem own : ownKnob Try.prog.godebug = none := by kernel_rfl
theorem laidOut : laidOutB Try.prog = true := by kernel_rfl

set_option maxHeartbeats 8000000 in
theorem core (w : World) (a0 : Option Addr) (cap0 : Nat) (zs0 : List Int) (r0 : Reads .u8 w a0 zs0) (hl0 : zs0.length ≤ 1048576) (q : Int) (ps : List Bs) (hr : ps.length ≤ 1048576)
    (hs : (∀ (x0 : Option Addr) (k0 : Nat) (u : World), Reads .u8 u x0 zs0 → zs0.length ≤ k0 → Calls Try.prog 23 #[.slice x0 zs0.length k0] u fun e w' => ∃ a' c', e = .returned (.agg #[.int .i64 q, .slice a' ps.length c']) ∧ GN u.heap.size w'.heap.size w' (.slice a' ps.length c') ps ∧ Below u.heap.size u w'))
    (hi : (∀ (x0 : Option Addr) (k0 : Nat) (u : World), Reads .u8 u x0 zs0 → zs0.length ≤ k0 → Calls Try.prog 13 #[.slice x0 zs0.length k0] u fun e w' => ∃ a' c', e = .returned (.agg #[.int .i64 q, .slice a' ps.length c']) ∧ GN u.heap.size w'.heap.size w' (.slice a' ps.length c') ps ∧ Below u.heap.size u w')) :
    Calls Try.prog 5 #[.slice a0 zs0.length cap0] w fun e w' => e = .returned (.bool true) ∧ Below w.heap.size w w' := by
  have hb0 : ¬ (1048576 : Int) < (zs0.length : Int) := by omega
  have R0 := hide r0
  clear r0
  have HS := hide hs
  have HI := hide hi
  clear hs hi
  go_enter Try.func5, Try.ntmps5
  go_wp2_with fail
  refine (toByteS_at a0 cap0 zs0 _ (R0.out.below (Below.refl _ _)) hl0).mono ?_
  rintro e w1 ⟨g1, rfl, hgl1, hgu1, o1, b1⟩
  have n_1 : w.heap.size ≤ w1.heap.size := b1.size
  have B_1 := hide (below_next (Below.refl _ _) b1)
  have hgl1 : w.heap.size ≤ g1 := by simpa using hgl1
  have Y0_1 := hide o1
  clear o1
  clear b1
  go_wp2_with fail
  refine (HS.out _ _ _ (Y0_1.out.reads) (Nat.le_refl _)).mono ?_
  rintro e w2 ⟨ra2, rc2, rfl, rg2, b2⟩
  have n_2 : w1.heap.size ≤ w2.heap.size := b2.size
  have Y0_2 := hide (Y0_1.out.below b2)
  have B_2 := hide (below_next B_1.out b2)
  have Dd_2 := hide rg2
  clear rg2
  clear b2 Y0_1 B_1
  clear Y0_2
  go_wp2_with fail
  refine (toByteS_at a0 cap0 zs0 _ (R0.out.below (below_next B_2.out (below_alloc _ _))) hl0).mono ?_
  rintro e w3 ⟨g3, rfl, hgl3, hgu3, o3, b3⟩
  have n_3 : w2.heap.size < w3.heap.size := by have := b3.size; simp at this; omega
  have Dd_3 := hide ((Dd_2.out.below (below_alloc _ _)).below b3)
  have T_3 := hide ((Two.new w2 (.int .i64 q) (.slice ra2 ps.length rc2) 33).below b3)
  have B_3 := hide (below_next (below_next B_2.out (below_alloc _ _)) b3)
  have hgl3 : w2.heap.size + 1 ≤ g3 := by simpa using hgl3
  have X0_3 := hide o3
  clear o3
  clear b3 Dd_2 B_2
  go_wp2_with fail
  refine (HI.out _ _ _ (X0_3.out.reads) (Nat.le_refl _)).mono ?_
  rintro e w4 ⟨ra4, rc4, rfl, rg4, b4⟩
  have n_4 : w3.heap.size ≤ w4.heap.size := b4.size
  have Dd_4 := hide (Dd_3.out.below b4)
  have T_4 := hide (T_3.out.below b4)
  have X0_4 := hide (X0_3.out.below b4)
  have B_4 := hide (below_next B_3.out b4)
  have Gg_4 := hide rg4
  clear rg4
  clear b4 Dd_3 T_3 X0_3 B_3
  have ns4 : w2.heap.size < w4.heap.size := by omega
  obtain ⟨Tt0, Tt1⟩ := T_4.out
  go_wp2_with fail
  clear Tt0 Tt1
  refine (eqNamedResult_same q ra4 ra2 rc4 rc2 ps _ ((Gg_4.out.below (below_alloc _ _))).rd ((Dd_4.out.below (below_alloc _ _))).rd hr).mono ?_
  rintro e w5 ⟨rfl, b5⟩
  have n_5 : w4.heap.size < w5.heap.size := by have := b5.size; simp at this; omega
  have Dd_5 := hide ((Dd_4.out.below (below_alloc _ _)).below b5)
  have T_5 := hide ((T_4.out.below (below_alloc _ _)).below b5)
  have X0_5 := hide ((X0_4.out.below (below_alloc _ _)).below b5)
  have Gg_5 := hide ((Gg_4.out.below (below_alloc _ _)).below b5)
  have U_5 := hide ((Two.new w4 (.int .i64 q) (.slice ra4 ps.length rc4) 33).below b5)
  have B_5 := hide (below_next (below_next B_4.out (below_alloc _ _)) b5)
  clear b5 Dd_4 T_4 X0_4 Gg_4 B_4
  go_wp2_with fail
  refine (toByteS_at a0 cap0 zs0 _ (R0.out.below B_5.out) hl0).mono ?_
  rintro e w6 ⟨g6, rfl, hgl6, hgu6, o6, b6⟩
  have n_6 : w5.heap.size ≤ w6.heap.size := b6.size
  have Dd_6 := hide (Dd_5.out.below b6)
  have T_6 := hide (T_5.out.below b6)
  have X0_6 := hide (X0_5.out.below b6)
  have Gg_6 := hide (Gg_5.out.below b6)
  have U_6 := hide (U_5.out.below b6)
  have B_6 := hide (below_next B_5.out b6)
  have hgl6 : w5.heap.size ≤ g6 := by simpa using hgl6
  have V_6 := hide o6
  clear o6
  clear b6 Dd_5 T_5 X0_5 Gg_5 U_5 B_5
  go_wp2_with fail
  refine (eqByteS_b _ _ _ _ zs0 _ (X0_6.out).reads (V_6.out).reads hl0).mono ?_
  rintro e w7 ⟨rfl, b7⟩
  have n_7 : w6.heap.size ≤ w7.heap.size := b7.size
  have Dd_7 := hide (Dd_6.out.below b7)
  have T_7 := hide (T_6.out.below b7)
  have X0_7 := hide (X0_6.out.below b7)
  have Gg_7 := hide (Gg_6.out.below b7)
  have U_7 := hide (U_6.out.below b7)
  have V_7 := hide (V_6.out.below b7)
  have B_7 := hide (below_next B_6.out b7)
  clear b7 Dd_6 T_6 X0_6 Gg_6 U_6 V_6 B_6
  clear V_7
  go_wp2_with fail
  refine (markByteS_any _ _ zs0 ((1 : Int)) _ X0_7.out (by omega) (by omega) (by omega)).mono ?_
  rintro e w8 ⟨rfl, -, kk8, -⟩
  have hS8 : ∀ b, blkOf (some ⟨g3, 0, none⟩) b → b = g3 := fun b hb => by simpa [blkOf, eq_comm] using hb
  have n_8 : w7.heap.size ≤ w8.heap.size := kk8.size
  have Dd_8 := hide (Dd_7.out.kept kk8 (fun b h1 h2 hS => by have := hS8 _ hS; first | omega | ((try simp at h1); (try simp at hS); omega)))
  have T_8 := hide (T_7.out.kept kk8 (fun hS => by have := hS8 _ hS; first | omega | (simp at hS; omega)))
  have Gg_8 := hide (Gg_7.out.kept kk8 (fun b h1 h2 hS => by have := hS8 _ hS; first | omega | ((try simp at h1); (try simp at hS); omega)))
  have U_8 := hide (U_7.out.kept kk8 (fun hS => by have := hS8 _ hS; first | omega | (simp at hS; omega)))
  have B_8 := hide (B_7.out.trans (kk8.below B_7.out.size (fun k hk hS => by have := hS8 _ hS; first | omega | (simp at hS; omega))))
  clear kk8 Dd_7 T_7 Gg_7 U_7 X0_7 B_7
  have hkk : ¬ ((1 : Int) + (zs0.length : Int)) < 0 := by omega
  obtain ⟨Tt0, Tt1⟩ := T_8.out
  obtain ⟨Ut0, Ut1⟩ := U_8.out
  go_wp2_with fail
  clear Tt0 Tt1 Ut0 Ut1
  refine (eqNamedResult_same q ra4 ra2 rc4 rc2 ps _ (Gg_8.out).rd (Dd_8.out).rd hr).mono ?_
  rintro e w9 ⟨rfl, b9⟩
  have n_9 : w8.heap.size ≤ w9.heap.size := b9.size
  have Dd_9 := hide (Dd_8.out.below b9)
  have T_9 := hide (T_8.out.below b9)
  have Gg_9 := hide (Gg_8.out.below b9)
  have U_9 := hide (U_8.out.below b9)
  have B_9 := hide (below_next B_8.out b9)
  clear b9 Dd_8 T_8 Gg_8 U_8 B_8
  obtain ⟨Ut0, Ut1⟩ := U_9.out
  go_wp2_with fail
  clear Ut0 Ut1
  refine (markNamedResult_any q _ _ ra4 rc4 ps _ Gg_9.out hr).mono ?_
  rintro e w10 ⟨rfl, gm10, kk10⟩
  have n_10 : w9.heap.size ≤ w10.heap.size := kk10.size
  have Dd_10 := hide (Dd_9.out.kept kk10 (fun b h1 h2 hS => by first | omega | ((try simp at h1); (try simp at hS); omega)))
  have T_10 := hide (T_9.out.kept kk10 (fun hS => by first | omega | (simp at hS; omega)))
  have Gg_10 := hide (gm10)
  have U_10 := hide (U_9.out.kept kk10 (fun hS => by first | omega | (simp at hS; omega)))
  have B_10 := hide (B_9.out.trans (kk10.below B_9.out.size (fun k hk hS => by first | omega | (simp at hS; omega))))
  clear kk10 Dd_9 T_9 Gg_9 U_9 B_9
  have hmv : ¬ ((1 : Int) + (ps.length : Int)) < 0 := by omega
  obtain ⟨Ut0, Ut1⟩ := U_10.out
  go_wp2_with fail
  clear Ut0 Ut1
  refine (heldNamedResult_any q ra4 rc4 ps.length _ Gg_10.out.rd hr).mono ?_
  rintro e w11 ⟨rfl, b11⟩
  have n_11 : w10.heap.size ≤ w11.heap.size := b11.size
  have Dd_11 := hide (Dd_10.out.below b11)
  have T_11 := hide (T_10.out.below b11)
  have Gg_11 := hide (Gg_10.out.below b11)
  have U_11 := hide (U_10.out.below b11)
  have B_11 := hide (below_next B_10.out b11)
  clear b11 Dd_10 T_10 Gg_10 U_10 B_10
  go_wp2_with fail
  refine (toByteS_at a0 cap0 zs0 _ (R0.out.below B_11.out) hl0).mono ?_
  rintro e w12 ⟨g12, rfl, hgl12, hgu12, o12, b12⟩
  have n_12 : w11.heap.size ≤ w12.heap.size := b12.size
  have Dd_12 := hide (Dd_11.out.below b12)
  have T_12 := hide (T_11.out.below b12)
  have Gg_12 := hide (Gg_11.out.below b12)
  have U_12 := hide (U_11.out.below b12)
  have B_12 := hide (below_next B_11.out b12)
  have hgl12 : w11.heap.size ≤ g12 := by simpa using hgl12
  have Z0_12 := hide o12
  clear o12
  clear b12 Dd_11 T_11 Gg_11 U_11 B_11
  go_wp2_with fail
  refine (HI.out _ _ _ (Z0_12.out.reads) (Nat.le_refl _)).mono ?_
  rintro e w13 ⟨ra13, rc13, rfl, rg13, b13⟩
  have n_13 : w12.heap.size ≤ w13.heap.size := b13.size
  have Dd_13 := hide (Dd_12.out.below b13)
  have T_13 := hide (T_12.out.below b13)
  have Gg_13 := hide (Gg_12.out.below b13)
  have U_13 := hide (U_12.out.below b13)
  have Z0_13 := hide (Z0_12.out.below b13)
  have B_13 := hide (below_next B_12.out b13)
  have Hh_13 := hide rg13
  clear rg13
  clear b13 Dd_12 T_12 Gg_12 U_12 Z0_12 B_12
  clear Z0_13
  have nt13 : w2.heap.size < w13.heap.size := by omega
  have nu13 : w4.heap.size < w13.heap.size := by omega
  obtain ⟨Tt0, Tt1⟩ := T_13.out
  go_wp2_with fail
  clear Tt0 Tt1
  refine (eqNamedResult_same q ra13 ra2 rc13 rc2 ps _ ((Hh_13.out.below (below_alloc _ _))).rd ((Dd_13.out.below (below_alloc _ _))).rd hr).mono ?_
  rintro e w14 ⟨rfl, b14⟩
  have n_14 : w13.heap.size < w14.heap.size := by have := b14.size; simp at this; omega
  have Dd_14 := hide ((Dd_13.out.below (below_alloc _ _)).below b14)
  have T_14 := hide ((T_13.out.below (below_alloc _ _)).below b14)
  have Gg_14 := hide ((Gg_13.out.below (below_alloc _ _)).below b14)
  have U_14 := hide ((U_13.out.below (below_alloc _ _)).below b14)
  have Hh_14 := hide ((Hh_13.out.below (below_alloc _ _)).below b14)
  have Q_14 := hide ((Two.new w13 (.int .i64 q) (.slice ra13 ps.length rc13) 33).below b14)
  have B_14 := hide (below_next (below_next B_13.out (below_alloc _ _)) b14)
  clear b14 Dd_13 T_13 Gg_13 U_13 Hh_13 B_13
  obtain ⟨Ut0, Ut1⟩ := U_14.out
  go_wp2_with fail
  clear Ut0 Ut1
  refine (heldNamedResult_any q ra4 rc4 ps.length _ Gg_14.out.rd hr).mono ?_
  rintro e w15 ⟨rfl, b15⟩
  have n_15 : w14.heap.size ≤ w15.heap.size := b15.size
  have Dd_15 := hide (Dd_14.out.below b15)
  have T_15 := hide (T_14.out.below b15)
  have Gg_15 := hide (Gg_14.out.below b15)
  have U_15 := hide (U_14.out.below b15)
  have Hh_15 := hide (Hh_14.out.below b15)
  have Q_15 := hide (Q_14.out.below b15)
  have B_15 := hide (below_next B_14.out b15)
  clear b15 Dd_14 T_14 Gg_14 U_14 Hh_14 Q_14 B_14
  go_wp2_with fail
  go_ret
  exact ⟨rfl, B_15.out⟩


theorem named {q : Int} {ps : List Bs} {w : World} {r : Ending} {w' : World} (h : ResN' q ps w r w') : ∃ a' c', r = .returned (.agg #[.int .i64 q, .slice a' ps.length c']) ∧ GN w.heap.size w'.heap.size w' (.slice a' ps.length c') ps ∧ Below w.heap.size w w' := by
  obtain ⟨a, c, h1, h2, h3⟩ := h
  exact ⟨a, c, h1, GN.mk h2, h3⟩
theorem readL_len (zs : List Int) : (readL zs).length ≤ 1048576 := by
  unfold readL
  split
  · have := lines_count zs; omega
  · simp

set_option maxHeartbeats 800000 in
theorem walk (a : Option Addr) (cap : Nat) (zs : List Int) (w : World) (r : Reads .u8 w a zs) (u : U8 zs) (mx : zs.length ≤ maxLen) :
    Calls Try.prog 5 #[.slice a zs.length cap] w fun e w' => e = .returned (.bool true) ∧ Below w.heap.size w w' := by
  by_cases hbig : (1048576 : Int) < (zs.length : Int)
  · clear r u
    go_enter Try.func5, Try.ntmps5
    go_wp2
    go_ret
    exact ⟨rfl, Below.refl _ _⟩
  · exact core w a cap zs r (by omega) (readQ zs) (readL zs) (readL_len zs)
      (fun x k u' hr hk => (specReadLines_any x k zs u' hr u hk (by omega)).mono (fun e w' h => named h))
      (fun x k u' hr hk => (implReadLines_any x k zs u' hr u hk (by omega)).mono (fun e w' h => named h))

set_option maxRecDepth 100000 in
theorem lifted (os : Os) (started : os.Started) (H : Type) (enc : TypeId × Value → H) :
    ReturnsInHanded {} Try.checked os 5 .any (Rows.fnExactReadLinesSpec.pre6 enc Try.prog Try.f5 Rows.fnExactReadLinesRow.domain false) (Rows.fnExactReadLinesSpec.post enc Try.prog Try.f5 false true false false) := by
  refine returnsInHanded_of_change (C := Try.checked) own started (by kernel_rfl) Try.func5
    (ChangeSpec.witness6 (enc := enc) (C := Try.checked) false ⟨#[], #[.slice none 0 0], []⟩ 8 (by kernel_rfl) (by kernel_rfl) (by kernel_rfl) (by kernel_rfl)) ?_
  intro W base args ds gs before hval0 hW hcnd _
  have hval : ∀ (j : Nat) t v, Try.f5.params[j]? = some t → args[j]? = some v → Value.okWide Try.prog W .any base t v := hval0
  have hW' := hW
  obtain ⟨p, q, hA0, hV, rfl, hfz, hnd⟩ := hW
  have hA : DataW.TrodAll enc Try.prog W 0 (fun _ => true) true Try.f5.params.toList args.toList ds p := hA0
  rw [Try.params5] at hA hval
  obtain ⟨v0, vs0, d0, ds0, p0, q0, hargs, rfl, rfl, h0, r0⟩ := trodAll_cons hA
  obtain ⟨rfl, rfl, rfl⟩ := trodAll_nil r0
  obtain rfl : args = #[v0] := by cases args; simp_all
  obtain ⟨rfl, rfl⟩ := trodVars_none hV
  obtain ⟨a0, len0, cap0, rfl⟩ := okWide_slice Try.underlying22 (hval 0 22 v0 rfl rfl)
  have k0 := h0
  have lt0 : ∀ x ∈ p0, x.block < W.heap.size := by obtain ⟨m, hm⟩ := k0; exact DataW.trod_lt m _ _ _ hm
  obtain ⟨zs, hlen, hread, hu, hmax⟩ : ∃ zs : List Int, zs.length = len0 ∧ Reads .u8 W a0 zs ∧ U8 zs ∧ zs.length ≤ maxLen := by
    obtain ⟨fuel, hf⟩ := h0
    rcases open_ints Try.underlying22 Try.underlying5 (by kernel_rfl) hf with ⟨hcs, _⟩ | ⟨x, l, c, zs, hcs, _, hl, hm, hz, _, hcell, hwz⟩
    · simp [Value.cells] at hcs
      obtain ⟨rfl, rfl, rfl⟩ := hcs
      exact ⟨[], rfl, fun h => absurd rfl h, fun z hz => by simp at hz, Nat.zero_le _⟩
    · simp [Value.cells] at hcs
      obtain ⟨rfl, rfl, rfl⟩ := hcs
      exact reads_of_row (by simpa using hz) hl hm hcell hwz
  subst hlen
  clear hA0 hval0
  refine (walk a0 cap0 zs W hread hu hmax).mono fun e W' ⟨he, bel⟩ => ?_
  subst he
  exact ⟨_, rfl, _, _, _, [], _, [], hW', trodAll_mk1 (shut_bool Try.underlying4 _), (trodAll_cons_mk (Below.trod laidOut (by kernel_rfl) (of_decide_eq_true (by kernel_rfl)) k0 bel lt0) trodAll_mk0), rfl, bel.frame _, fun h => by cases h⟩

theorem over : Rows.fnExactReadLinesRow.holds Try.pinned (OpenSpec.ofChange Rows.fnExactReadLinesSpec) :=
  OpenClaim.holds_of_wide 5 Try.f5 rfl rfl rfl rfl rfl rfl rfl ⟨rfl, rfl, rfl, rfl, rfl⟩ rfl rfl rfl rfl rfl (by kernel_rfl) Try.func5 (by kernel_rfl)
    (of_decide_eq_true (by kernel_rfl)) (by unfold Func.isWrapper; first | (rw [if_pos (by decide +kernel)]; kernel_rfl) | (rw [if_neg (by decide +kernel)]; exact ⟨rfl, rfl⟩))
    (fun os started H enc _ => lifted os started H enc)

end Go.Proofs.Ytpikgmbjgfdcfaa.readLines
namespace Go.Proofs.Ytpikgmbjgfdcfaa
theorem fnExactReadLines_holds : Rows.FnExactReadLinesSaid := readLines.over
#print axioms fnExactReadLines_holds
end Go.Proofs.Ytpikgmbjgfdcfaa

