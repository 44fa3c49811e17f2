/-
  At every byte slice the law FnDiffs returns true: what leads from one tree to another one leads there, and of the same to the same it is empty. No condition.
-/
import Derived.Test.YtjcjdedkedafbaaGreatDifD
import Derived.ProofKit
import Derived.OpenShut
import Derived.ShutString
import Derived.ChangeOld
import Derived.Deep.DrawnRows
import Derived.Deep.RegionHeld3
namespace Go.Proofs.YtjcjdedkedafbaaGreat.fnDiffs
open Go.ChangeShapes Go.WideShapes Go.ChangeAt Go.RowKit Go.Maps
set_option linter.unusedVariables false
attribute [local go_sem ↓] Go.wp_at_zero Go.wp_at_succ

theorem own : ownKnob Tryz.prog.godebug = none := by kernel_rfl
theorem laidOut : laidOutB Tryz.prog = true := by kernel_rfl

theorem lwBig_no (a : Option Addr) (cap : Nat) (n : Nat) (w : World) (h : n ≤ 1048576) :
    Calls Tryz.prog 4 #[.slice a n cap] w fun e w' => e = .returned (.bool false) ∧ w' = w := by
  have hb : ¬ (1048576 : Int) < (n : Int) := by omega
  go_enter Tryz.func4, Tryz.ntmps4
  go_wp2
  go_ret
  exact ⟨ret_bool (by simp <;> omega), rfl⟩
theorem lwBig_yes (a : Option Addr) (cap : Nat) (n : Nat) (w : World) (h : 1048576 < n) (h2 : n ≤ maxLen) :
    Calls Tryz.prog 4 #[.slice a n cap] w fun e w' => e = .returned (.bool true) ∧ w' = w := by
  have hb : (1048576 : Int) < (n : Int) := by omega
  unfold maxLen at h2
  go_enter Tryz.func4, Tryz.ntmps4
  go_wp2
  go_ret
  exact ⟨ret_bool (by simp <;> omega), rfl⟩

theorem dif_zero {a b : List En} (h : difCode a b = 0) : RightT a ∧ RightT b ∧ difList a b = diffE a b ∧ (diffE a b).length ≤ 12 := by
  by_cases h1 : treFaultP a = 0
  · by_cases h2 : treFaultP b = 0
    · by_cases h3 : 12 < (diffE a b).length
      · rw [(dif_many h1 h2 h3).1] at h; cases h
      · exact ⟨rightT_P.1 h1, rightT_P.1 h2, (dif_ok h1 h2 h3).2, by omega⟩
    · rw [(dif_b h1 h2).1] at h; exact absurd h h2
  · rw [(dif_a h1).1] at h; exact absurd h h1
theorem dif_self {b : List En} (h : RightT b) : difCode b b = 0 ∧ difList b b = [] := by
  have h1 := rightT_P.2 h
  have h2 := diff_same h
  have h3 := dif_ok h1 h1 (by rw [h2]; simp)
  exact ⟨h3.1, by rw [h3.2, h2]⟩
theorem mrg_leads {a b : List En} (ha : RightT a) (hb : RightT b) (hl : (diffE a b).length ≤ 12) : layFaultP (diffE a b) = 0 ∧ mrgCode a (diffE a b) = 0 ∧ mrgList a (diffE a b) = b := by
  have h1 := right_P.2 (right_fit.2 ⟨diff_fit ha hb, hl⟩)
  have h2 := diff_leads ha hb
  have h3 := mrg_ok (rightT_P.2 ha) h1 (by rw [h2]; have := hb.len; omega)
  exact ⟨h1, h3.1, by rw [h3.2, h2]⟩

set_option maxRecDepth 100000 in
set_option maxHeartbeats 12800000 in
theorem walk (a0 : Option Addr) (cap0 : Nat) (zs : List Int) (w : World) (h : Reads .u8 w a0 zs) (hu : U8 zs) (hmax : zs.length ≤ maxLen) :
    Calls Tryz.prog 3 #[.slice a0 zs.length cap0] w fun e w' => e = .returned (.bool true) ∧ Below w.heap.size w w' := by
  have HR := hide h
  have HU := hide hu
  clear h hu
  by_cases hbig : 1048576 < zs.length
  · go_enter Tryz.func3, Tryz.ntmps3
    go_wp2_with fail
    refine (lwBig_yes _ _ _ _ hbig hmax).mono ?_
    rintro e w ⟨rfl, rfl⟩
    go_wp2_with fail
    go_ret
    exact ⟨rfl, Below.refl _ _⟩
  · go_enter Tryz.func3, Tryz.ntmps3
    go_wp2_with fail
    refine (lwBig_no _ _ _ _ (by omega)).mono ?_
    rintro e w ⟨rfl, rfl⟩
    go_wp2_with fail
    refine (drawDiffTrees_any a0 cap0 zs _ HR.out HU.out (by omega)).mono ?_
    rintro e w1 ⟨es, av, cv, fs, bv, cw, rfl, hT⟩
    have HT := hide hT
    have B1 := hide hT.below
    have hel := hT.len
    have hfl := hT.len2
    clear hT HR HU hbig hmax
    go_wp2_with fail
    refine (implDiffTrees_any av cv es.length es bv cw fs.length fs w1 HT.out.rd rfl (by omega) HT.out.small HT.out.rd2 rfl (by omega) HT.out.small2).mono ?_
    rintro r w2 ⟨dv, dc, rfl, hG2, hb2⟩
    have HSP : Hid (∀ u : World, Below w1.heap.size w1 u → Calls Tryz.prog 7 #[.slice av es.length cv, .slice bv fs.length cw] u fun r w' => ∃ xv xc, r = .returned (.agg #[.int .i64 (difCode es fs), .slice xv (difList es fs).length xc]) ∧ Below u.heap.size u w') := hide (fun u hb' => specDiffTrees_any av cv es.length es bv cw fs.length fs u (HT.out.rd.below hb') rfl (by omega) HT.out.small HT.out.good HT.out.cap (HT.out.rd2.below hb') rfl (by omega) HT.out.small2 HT.out.good2 HT.out.cap2)
    have AW := hide (below_alloc w2 (.cells #[.int .i64 (difCode es fs), .slice dv (difList es fs).length dc] 28))
    have X2 := hide (Box.new w2 (.int .i64 (difCode es fs)) (.slice dv (difList es fs).length dc) 28)
    have BW2 := hide (below_next hb2 AW.out)
    have B2 := hide (below_next B1.out BW2.out)
    have RD2 := hide (hG2.rd.below AW.out)
    clear hG2 hb2 AW
    by_cases hz : difCode es fs = 0
    · obtain ⟨hRa, hRb, hDL, h12⟩ := dif_zero hz
      obtain ⟨hlf, hmc, hml⟩ := mrg_leads hRa hRb h12
      obtain ⟨hs1, hs2⟩ := dif_self hRb
      have HSD := hide (diff_fit hRa hRb).small
      have HSF := hide HT.out.small2
      rw [hz, hDL] at X2 HSP ⊢
      rw [hz, hDL] at BW2 B2 RD2
      obtain ⟨D, hD⟩ : ∃ D, D = diffE es fs := ⟨_, rfl⟩
      rw [← hD] at X2 HSP BW2 B2 RD2 HSD hlf hmc hml h12 ⊢
      clear hD hDL hz hRa hRb
      have HMC := hide (And.intro hmc hml)
      have HLF := hide hlf
      have HSS := hide (And.intro hs1 hs2)
      clear hmc hml hlf hs1 hs2
      obtain ⟨⟨t0, t1⟩, t2, t3⟩ := X2.out
      go_wp2_with fail
      clear t0 t1 t2 t3
      generalize w2.alloc (.cells #[.int .i64 0, .slice dv D.length dc] 28) = W2 at *
      generalize w2.heap.size = b2 at *
      have hme := implMergeLayer_any av cv es.length es dv dc D.length D W2 (HT.out.rd.below BW2.out) rfl (by omega) HT.out.small RD2.out rfl (by omega) HSD.out
      rw [HMC.out.1, HMC.out.2] at hme
      refine hme.mono ?_
      rintro r w3 ⟨mv, mc, rfl, hG3, hb3⟩
      have A3 := hide (below_alloc w3 (.cells #[.int .i64 0, .int .i64 0, .slice mv fs.length mc] 31))
      have X3 := hide (Box3.new w3 (.int .i64 0) (.int .i64 0) (.slice mv fs.length mc) 31)
      have BB3 := hide (below_next hb3 A3.out)
      have RM3 := hide (hG3.rd.below A3.out)
      have X23 := hide (X2.out.below BB3.out)
      have RD3 := hide (RD2.out.below BB3.out)
      have BW3 := hide (below_next BW2.out BB3.out)
      have B3 := hide (below_next B2.out BB3.out)
      clear hG3 hb3 hme A3 HMC X2 RD2 B2 BW2
      obtain ⟨⟨t0, t1, t2⟩, t3, t4, t5⟩ := X3.out
      go_wp2_with fail
      clear t0 t1 t2 t3 t4 t5
      generalize w3.alloc (.cells #[.int .i64 0, .int .i64 0, .slice mv fs.length mc] 31) = W3 at *
      generalize w3.heap.size = b3 at *
      have KC : Hid (∀ w' : World, Below W3.heap.size W3 w' → w'.cell? ⟨b2, 1, none⟩ = some (.slice dv D.length dc) ∧ w'.cell? ⟨b3, 2, none⟩ = some (.slice mv fs.length mc)) := hide (fun w' hb' => ⟨(X23.out.below hb').1.2, (X3.out.below hb').1.2.2⟩)
      have HL1 : Hid (∀ u : World, Below W3.heap.size W3 u → Calls Tryz.prog 9 #[.slice dv D.length dc] u fun r w' => r = .returned (.int .i64 0) ∧ Below u.heap.size u w') := hide (fun u hb' => by
        have h1 := implLayerFault_any dv dc D.length D u (RD3.out.below hb') rfl (by omega) HSD.out
        rw [HLF.out] at h1
        exact h1)
      have HL2 : Hid (∀ u : World, Below W3.heap.size W3 u → Calls Tryz.prog 10 #[.slice mv fs.length mc, .slice bv fs.length cw] u fun r w' => r = .returned (.bool true) ∧ Below u.heap.size u w') := hide (fun u hb' => by
        have h1 := implSameLayers_any mv bv mc cw fs.length fs.length fs fs u (RM3.out.below hb') (HT.out.rd2.below (below_next BW3.out hb')) rfl rfl (by omega) (by omega) HSF.out HSF.out
        rw [decide_eq_true rfl] at h1
        exact h1)
      have HL3 : Hid (∀ u : World, Below W3.heap.size W3 u → Calls Tryz.prog 6 #[.slice bv fs.length cw, .slice bv fs.length cw] u fun r w' => ∃ xv xc, r = .returned (.agg #[.int .i64 0, .slice xv 0 xc]) ∧ Below u.heap.size u w') := hide (fun u hb' => by
        have h1 := implDiffTrees_any bv cw fs.length fs bv cw fs.length fs u (HT.out.rd2.below (below_next BW3.out hb')) rfl (by omega) HSF.out (HT.out.rd2.below (below_next BW3.out hb')) rfl (by omega) HSF.out
        rw [HSS.out.1, HSS.out.2] at h1
        exact h1.mono (fun r w' ⟨xv, xc, h2, _, h3⟩ => ⟨xv, xc, h2, h3⟩))
      have HL4 := hide (fun (u : World) (hb' : Below W3.heap.size W3 u) => HSP.out u (below_next BW3.out hb'))
      have hfd : ∀ (w : World) (v : Value), (Instr.field 28 (.agg #[.int .i64 0, v]) 1).run Tryz.prog w = .ok v w := fun _ _ => by kernel_rfl
      clear HSP HSS HLF X23 X3 RD3 RM3 BW3 HSD HSF HT
      obtain ⟨q0, q1⟩ := KC.out W3 (Below.refl _ _)
      go_region_held3 (fun w' => w'.cell? ⟨b2, 1, none⟩ = some (.slice dv D.length dc) ∧ w'.cell? ⟨b3, 2, none⟩ = some (.slice mv fs.length mc)) (first | exact KC.out _ BB7.out | exact KC.out _ BB6.out | exact KC.out _ BB5.out | exact KC.out _ BB4.out | go_keep)
        ((first
          | (go_at_call 9; refine (HL1.out _ (Below.refl _ _).drew).mono ?_; rintro r w4 ⟨rfl, hb4⟩; have BB4 := hide ((Below.refl W3.heap.size W3).drew.trans hb4); clear hb4)
          | (go_at_call 10; refine (HL2.out _ BB4.out).mono ?_; rintro r w5 ⟨rfl, hb5⟩; have BB5 := hide (below_next BB4.out hb5); clear hb5)
          | (go_at_call 6; refine (HL3.out _ BB5.out).mono ?_; rintro r w6 ⟨xv6, xc6, rfl, hb6⟩; have BB6 := hide (below_next BB5.out hb6); clear hb6)
          | (go_at_call 7; refine (HL4.out _ BB6.out).mono ?_; rintro r w7 ⟨xv7, xc7, rfl, hb7⟩; have BB7 := hide (below_next BB6.out hb7); clear hb7)))
      go_wp2_with fail
      go_ret
      exact ⟨rfl, below_next B3.out BB7.out⟩
    · generalize difList es fs = DL at *
      generalize difCode es fs = F at *
      have hz2 : (F != 0) = true := by simp; exact hz
      have hff : (F == F) = true := by simp
      clear hz
      obtain ⟨⟨t0, t1⟩, t2, t3⟩ := X2.out
      go_wp2_with fail
      clear t0 t1 t2 t3
      generalize w2.alloc (.cells #[.int .i64 F, .slice dv DL.length dc] 28) = W2 at *
      generalize w2.heap.size = b2 at *
      have KC : Hid (∀ w' : World, Below W2.heap.size W2 w' → w'.cell? ⟨b2, 0, none⟩ = some (.int .i64 F)) := hide (fun w' hb' => (X2.out.below hb').1.1)
      have q0 := KC.out W2 (Below.refl _ _)
      have hfd : ∀ (w : World) (v : Value), (Instr.field 28 (.agg #[.int .i64 F, v]) 0).run Tryz.prog w = .ok (.int .i64 F) w := fun _ _ => by kernel_rfl
      go_region_held3 (fun w' => w'.cell? ⟨b2, 0, none⟩ = some (.int .i64 F)) (first | exact KC.out _ BB5.out | go_keep)
        ((go_at_call 7; refine (HSP.out _ (below_next BW2.out (Below.refl _ _).drew)).mono ?_; rintro r w5 ⟨xv5, xc5, rfl, hb5⟩; have BB5 := hide ((Below.refl W2.heap.size W2).drew.trans hb5); clear hb5))
      go_wp2_with fail
      go_ret
      exact ⟨rfl, below_next B2.out BB5.out⟩

set_option maxRecDepth 100000 in
theorem lifted (os : Os) (started : os.Started) (H : Type) (enc : TypeId × Value → H) :
    ReturnsInHanded {} Tryz.checked os 3 .any (Rows.fnDiffsSpec.pre6 enc Tryz.prog Tryz.f3 Rows.fnDiffsRow.domain false) (Rows.fnDiffsSpec.post enc Tryz.prog Tryz.f3 false true false false) := by
  refine returnsInHanded_of_change (C := Tryz.checked) own started (by kernel_rfl) Tryz.func3
    (ChangeSpec.witness6 (enc := enc) (C := Tryz.checked) false ⟨#[], #[.slice none 0 0], []⟩ 8 (by kernel_rfl) (by kernel_rfl) (by kernel_rfl) (by kernel_rfl)) ?_
  intro W base args ds gs before hval0 hW hcnd _
  have hval : ∀ (j : Nat) t v, Tryz.f3.params[j]? = some t → args[j]? = some v → Value.okWide Tryz.prog W .any base t v := hval0
  have hW' := hW
  obtain ⟨p, q, hA0, hV, rfl, hfz, hnd⟩ := hW
  have hA : DataW.TrodAll enc Tryz.prog W 0 (fun _ => true) true Tryz.f3.params.toList args.toList ds p := hA0
  rw [Tryz.params3] at hA hval
  obtain ⟨v0, vs0, d0, ds0, p0, q0, hargs, rfl, rfl, h0, r0⟩ := trodAll_cons hA
  obtain ⟨rfl, rfl, rfl⟩ := trodAll_nil r0
  obtain rfl : args = #[v0] := by cases args; simp_all
  obtain ⟨rfl, rfl⟩ := trodVars_none hV
  obtain ⟨a0, len0, cap0, rfl⟩ := okWide_slice Tryz.underlying22 (hval 0 22 v0 rfl rfl)
  have k0 := h0
  have lt0 : ∀ x ∈ p0, x.block < W.heap.size := by obtain ⟨m, hm⟩ := k0; exact DataW.trod_lt m _ _ _ hm
  obtain ⟨zs, hlen, hread, hu, hmax⟩ : ∃ zs : List Int, zs.length = len0 ∧ Reads .u8 W a0 zs ∧ U8 zs ∧ zs.length ≤ maxLen := by
    obtain ⟨fuel, hf⟩ := h0
    rcases open_ints Tryz.underlying22 Tryz.underlying5 (by kernel_rfl) hf with ⟨hcs, _⟩ | ⟨x, l, c, zs, hcs, _, hl, hm, hz, _, hcell, hwz⟩
    · simp [Value.cells] at hcs
      obtain ⟨rfl, rfl, rfl⟩ := hcs
      exact ⟨[], rfl, fun h => absurd rfl h, fun z hz => by simp at hz, Nat.zero_le _⟩
    · simp [Value.cells] at hcs
      obtain ⟨rfl, rfl, rfl⟩ := hcs
      exact reads_of_row (by simpa using hz) hl hm hcell hwz
  subst hlen
  clear hA0 hval0
  refine (walk a0 cap0 zs W hread hu hmax).mono fun e W' ⟨he, bel⟩ => ?_
  subst he
  exact ⟨_, rfl, _, _, _, [], _, [], hW', trodAll_mk1 (shut_bool Tryz.underlying4 _), (trodAll_cons_mk (Below.trod laidOut (by kernel_rfl) (of_decide_eq_true (by kernel_rfl)) k0 bel lt0) trodAll_mk0), rfl, bel.frame _, fun h => by cases h⟩

theorem over : Rows.fnDiffsRow.holds Tryz.pinned (OpenSpec.ofChange Rows.fnDiffsSpec) :=
  OpenClaim.holds_of_wide 3 Tryz.f3 rfl rfl rfl rfl rfl rfl rfl ⟨rfl, rfl, rfl, rfl, rfl⟩ rfl rfl rfl rfl rfl (by kernel_rfl) Tryz.func3 (by kernel_rfl)
    (of_decide_eq_true (by kernel_rfl)) (by unfold Func.isWrapper; first | (rw [if_pos (by decide +kernel)]; kernel_rfl) | (rw [if_neg (by decide +kernel)]; exact ⟨rfl, rfl⟩))
    (fun os started H enc _ => lifted os started H enc)

end Go.Proofs.YtjcjdedkedafbaaGreat.fnDiffs
namespace Go.Proofs.YtjcjdedkedafbaaGreat
theorem fnDiffs_holds : Rows.FnDiffsSaid := fnDiffs.over
#print axioms fnDiffs_holds
end Go.Proofs.YtjcjdedkedafbaaGreat
