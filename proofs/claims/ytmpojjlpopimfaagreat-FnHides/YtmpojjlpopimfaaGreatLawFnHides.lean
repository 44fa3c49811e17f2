/-
  At every byte slice the law FnHides returns true: of what a layer hides nothing is seen that lower ones say. No condition.
-/
import Derived.Test.YtmpojjlpopimfaaGreatMerD
import Derived.Test.YtmpojjlpopimfaaGreatSeeD
import Derived.Test.YtmpojjlpopimfaaGreatOvrN
import Derived.ProofKit
import Derived.OpenShut
import Derived.ShutString
import Derived.ChangeOld
import Derived.Deep.DrawnRows
import Derived.Deep.RegionHeld3
namespace Go.Proofs.YtmpojjlpopimfaaGreat.fnHides
open Go.ChangeShapes Go.WideShapes Go.ChangeAt Go.RowKit Go.Maps
set_option linter.unusedVariables false
attribute [local go_sem ↓] Go.wp_at_zero Go.wp_at_succ

theorem own : ownKnob Tryz.prog.godebug = none := by kernel_rfl
theorem laidOut : laidOutB Tryz.prog = true := by kernel_rfl

theorem lwBig_no (a : Option Addr) (cap : Nat) (n : Nat) (w : World) (h : n ≤ 1048576) :
    Calls Tryz.prog 7 #[.slice a n cap] w fun e w' => e = .returned (.bool false) ∧ w' = w := by
  have hb : ¬ (1048576 : Int) < (n : Int) := by omega
  go_enter Tryz.func7, Tryz.ntmps7
  go_wp2
  go_ret
  exact ⟨ret_bool (by simp <;> omega), rfl⟩
theorem lwBig_yes (a : Option Addr) (cap : Nat) (n : Nat) (w : World) (h : 1048576 < n) (h2 : n ≤ maxLen) :
    Calls Tryz.prog 7 #[.slice a n cap] w fun e w' => e = .returned (.bool true) ∧ w' = w := by
  have hb : (1048576 : Int) < (n : Int) := by omega
  unfold maxLen at h2
  go_enter Tryz.func7, Tryz.ntmps7
  go_wp2
  go_ret
  exact ⟨ret_bool (by simp <;> omega), rfl⟩

/-- What a layer hides is not there behind it, but what it says itself. -/
theorem hides_seen {t L : List En} (ht : FitT t) (hL : Right L) {p : Bs} (hp : faultP p = 0) (hh : hidesE L p = true) {x : En} (hx : x ∈ mergeE t L) (hb : isBelow x.path p = true) : findCodeP L x.path = 0 := by
  have hF := (right_fit.1 hL).1
  have hM := merge_fit ht hF
  have hxp := hM.fit.path hx
  rw [isBelow_eq hxp hp] at hb
  have h1 := rise_find hM.fit.rise hx
  rw [merge_find ht hF] at h1
  have hs : (findE L x.path).isSome = true := by
    cases hf : findE L x.path with
    | some e => rfl
    | none =>
      rw [seeT_none hf] at h1
      obtain ⟨e, he, hk, hq⟩ := (hides_iff hL hp).1 hh
      have : hid L x.path = true := hid_iff.2 ⟨e, he, hk, by
        rcases hq with hq | hq
        · rw [hq]; exact hb
        · exact below_trans hb hq⟩
      rw [this] at h1
      simp at h1
  unfold findCodeP
  rw [if_pos (askP_of hL hxp), if_pos hs]

set_option maxRecDepth 100000 in
set_option maxHeartbeats 12800000 in
theorem walk (a0 : Option Addr) (cap0 : Nat) (zs : List Int) (w : World) (h : Reads .u8 w a0 zs) (hu : U8 zs) (hmax : zs.length ≤ maxLen) :
    Calls Tryz.prog 3 #[.slice a0 zs.length cap0] w fun e w' => e = .returned (.bool true) ∧ Below w.heap.size w w' := by
  have HR := hide h
  have HU := hide hu
  clear h hu
  by_cases hbig : 1048576 < zs.length
  · go_enter Tryz.func3, Tryz.ntmps3
    go_wp2_with fail
    refine (lwBig_yes _ _ _ _ hbig hmax).mono ?_
    rintro e w ⟨rfl, rfl⟩
    go_wp2_with fail
    go_ret
    exact ⟨rfl, Below.refl _ _⟩
  · go_enter Tryz.func3, Tryz.ntmps3
    go_wp2_with fail
    refine (lwBig_no _ _ _ _ (by omega)).mono ?_
    rintro e w ⟨rfl, rfl⟩
    go_wp2_with fail
    refine (drawHidesBelow_any a0 cap0 zs _ HR.out HU.out (by omega)).mono ?_
    rintro e w1 ⟨L, av, cv, p, rfl, hel, hsm, hrd, hp, hb1⟩
    have HS := hide hsm
    have RL := hide hrd
    have B1 := hide hb1
    have hsz := str_size p
    clear hsm hrd hb1
    go_wp2_with fail
    refine (implHidesBelow_any av cv L.length L p w1 RL.out rfl (by omega) HS.out hp).mono ?_
    rintro r w2 ⟨rfl, hb2⟩
    have B2 := hide (below_next B1.out hb2)
    have RL2 := hide (RL.out.below hb2)
    clear hb2 B1
    obtain ⟨V, hV⟩ : ∃ V, V = hidB L p := ⟨_, rfl⟩
    rw [← hV]
    have HV := hide hV
    clear hV
    have hvv : (V != V) = false := by simp
    have hvv2 : (V == V) = true := by simp
    go_wp2_with fail
    refine (specHidesBelow_any av cv L.length L p w2 RL2.out rfl (by omega) HS.out hp).mono ?_
    rintro r w3 ⟨rfl, hb3⟩
    rw [← HV.out]
    have B3 := hide (below_next B2.out hb3)
    have RL3 := hide (RL2.out.below hb3)
    clear hb3 B2
    go_wp2_with fail
    refine (implLayerFault_any av cv L.length L w3 RL3.out rfl (by omega) HS.out).mono ?_
    rintro r w4 ⟨rfl, hb4⟩
    have B4 := hide (below_next B3.out hb4)
    have RL4 := hide (RL3.out.below hb4)
    clear hb4 B3
    by_cases hz : layFaultP L = 0
    · rw [hz]
      have HZ := hide (right_P.1 hz)
      clear hz
      go_wp2_with fail
      refine (implPathFault_any (str p) w4 (by omega)).mono ?_
      rintro r w5 ⟨rfl, hb5⟩
      rw [str_data]
      have B5 := hide (below_next B4.out hb5)
      have RL5 := hide (RL4.out.below hb5)
      clear hb5 B4
      by_cases hq : faultP p = 0
      · rw [hq]
        have HP := hide hq
        have HVE := hide (HV.out.trans (hidB_good (askP_of HZ.out hq)))
        clear hq
        go_wp2_with fail
        refine (drawTreeText_any a0 cap0 zs _ (HR.out.below B5.out) HU.out (by omega)).mono ?_
        rintro r w6 ⟨t, tv, tc, rfl, hgt, htl, hts, hrt, hb6⟩
        have HGT := hide hgt
        have HTS := hide hts
        have RT := hide hrt
        have B6 := hide (below_next B5.out hb6)
        have RL6 := hide (RL5.out.below hb6)
        clear hgt hts hrt hb6 B5 HR HU
        have HSM := hide (smg_mrg HGT.out (good_right HZ.out))
        go_wp2_with fail
        refine (implMergeLayer_any tv tc t.length t av cv L.length L w6 RT.out rfl (by omega) HTS.out RL6.out rfl (by omega) HS.out).mono ?_
        rintro r w7 ⟨mv, mc, rfl, hG7, hb7⟩
        have HSP : Hid (∀ u : World, Below w6.heap.size w6 u → Calls Tryz.prog 15 #[.slice tv t.length tc, .slice av L.length cv] u fun r w' => ∃ xv xc, r = .returned (.agg #[.int .i64 (mrgCode t L), .int .i64 0, .slice xv (mrgList t L).length xc]) ∧ Below u.heap.size u w') := hide (fun u hb' => by
          have h1 := specMergeLayer_any tv tc t.length t av cv L.length L u (RT.out.below hb') rfl (by omega) HTS.out (RL6.out.below hb') rfl (by omega) HS.out HGT.out
          rw [HSM.out.1, HSM.out.2] at h1
          exact h1.mono (fun r w' ⟨xv, xc, h2, _, h3⟩ => ⟨xv, xc, h2, h3⟩))
        have A7 := hide (below_alloc w7 (.cells #[.int .i64 (mrgCode t L), .int .i64 0, .slice mv (mrgList t L).length mc] 32))
        have X7 := hide (Box3.new w7 (.int .i64 (mrgCode t L)) (.int .i64 0) (.slice mv (mrgList t L).length mc) 32)
        have BW7 := hide (below_next hb7 A7.out)
        have B7 := hide (below_next B6.out BW7.out)
        have RM7 := hide (hG7.rd.below A7.out)
        have RL7 := hide (RL6.out.below BW7.out)
        clear hG7 hb7 A7 B6
        by_cases hc : mrgCode t L = 0
        · obtain ⟨hRt, hRL, hML, h40⟩ := mrg_zero hc
          have HFT := hide (rightT_fit.1 hRt).1
          rw [hc, hML] at X7 HSP BW7 B7 RM7 RL7 ⊢
          have HMem := hide (fun x hx hv hb => hides_seen (x := x) HFT.out HZ.out HP.out hv hx hb)
          have HMS := hide (merge_fit HFT.out (right_fit.1 HZ.out).1).fit.small
          generalize mergeE t L = M at *
          clear hRt hRL hML hc
          obtain ⟨⟨t0, t1, t2⟩, t3, t4, t5⟩ := X7.out
          go_wp2_with fail
          clear t0 t1 t2 t3 t4 t5
          generalize w7.alloc (.cells #[.int .i64 0, .int .i64 0, .slice mv M.length mc] 32) = W7 at *
          generalize w7.heap.size = b7 at *
          go_loopw [8] (fun i wr => ∃ k : Nat, k ≤ M.length ∧ i = .int .i64 k ∧ Hid (Below W7.heap.size W7 wr)) (fun i _ => M.length - (intOf i).toNat)
          case atStart => exact ⟨0, Nat.zero_le _, rfl, hide (Below.refl _ _)⟩
          case round =>
            obtain ⟨k, hk, rfl, HW⟩ := hrel
            obtain ⟨⟨t0, t1, t2⟩, t3, t4, t5⟩ := X7.out.below HW.out
            by_cases hlt : k < M.length
            · obtain ⟨b, off, e, x, cc, rfl, hb, he, c0, c1, c2, c3, hr⟩ := (RM7.out.below HW.out).at hlt
              have HX := hide (List.mem_of_getElem? he)
              have hse := (HMS.out e HX.out).1
              have hss := str_size e.path
              clear he hr c1 c2 c3
              cases hvc : V
              · go_wp2_with fail
                go_roundw
                case rel => exact ⟨k + 1, by omega, by go_num, HW⟩
                case measure => simp [intOf]; omega
              · have HVt := hide (HVE.out.symm.trans hvc)
                clear hvv hvv2
                go_wp2_with fail
                refine (implIsBelow_any (str e.path) (str p) wr (by omega)).mono ?_
                rintro r w8 ⟨rfl, hb8⟩
                rw [str_data, str_data]
                have B8 := hide (below_next HW.out hb8)
                clear hb8
                cases hib : isBelow e.path p
                · go_wp2_with fail
                  go_roundw
                  case rel => exact ⟨k + 1, by omega, by go_num, B8⟩
                  case measure => simp [intOf]; omega
                · have HF0 := hide (HMem.out e HX.out HVt.out hib)
                  have hEA := implEntryAt_any av cv L.length L e.path w8 (RL7.out.below B8.out) rfl (by omega) HS.out hse
                  rw [HF0.out] at hEA
                  have HEA := hide hEA
                  clear hEA hib
                  have hfd : ∀ (w : World) (v : Value), (Instr.field 39 (.agg #[.int .i64 0, v]) 0).run Tryz.prog w = .ok (.int .i64 0) w := fun _ _ => by kernel_rfl
                  go_wp2_with fail
                  refine HEA.out.mono ?_
                  rintro r w9 ⟨ev, ec, rfl, -, hb9⟩
                  have B9 := hide (below_next B8.out hb9)
                  clear hb9
                  go_wp2_with fail
                  go_roundw
                  case rel => exact ⟨k + 1, by omega, by go_num, B9⟩
                  case measure => simp [intOf]; omega
            · clear t0 t1 t2 t3 t4 t5
              have KC : Hid (∀ w' : World, Below wr.heap.size wr w' → w'.cell? ⟨b7, 2, none⟩ = some (.slice mv M.length mc)) := hide (fun w' hb' => ((X7.out.below HW.out).below hb').1.2.2)
              have q0 := KC.out wr (Below.refl _ _)
              have HS9 := hide (fun (u : World) (hb' : Below wr.heap.size wr u) => HSP.out u (below_next BW7.out (below_next HW.out hb')))
              have hfd : ∀ (w : World) (v : Value), (Instr.field 32 (.agg #[.int .i64 0, .int .i64 0, v]) 2).run Tryz.prog w = .ok v w := fun _ _ => by kernel_rfl
              have hll : ((M.length : Int) == (M.length : Int)) = true := by simp
              go_wp2_with fail
              go_region_held3 (fun w' => w'.cell? ⟨b7, 2, none⟩ = some (.slice mv M.length mc)) (first | exact KC.out _ BB5.out | go_keep)
                ((go_at_call 15; refine (HS9.out _ (Below.refl _ _).drew).mono ?_; rintro r w9 ⟨xv5, xc5, rfl, hb5⟩; have BB5 := hide ((Below.refl wr.heap.size wr).drew.trans hb5); clear hb5))
              go_wp2_with fail
              go_ret
              exact ⟨rfl, below_next (below_next B7.out HW.out) BB5.out⟩
        · generalize mrgList t L = DL at *
          generalize mrgCode t L = F at *
          have hz2 : (F != 0) = true := by simp; exact hc
          have hff : (F == F) = true := by simp
          clear hc
          obtain ⟨⟨t0, t1, t2⟩, t3, t4, t5⟩ := X7.out
          go_wp2_with fail
          clear t0 t1 t2 t3 t4 t5
          generalize w7.alloc (.cells #[.int .i64 F, .int .i64 0, .slice mv DL.length mc] 32) = W7 at *
          generalize w7.heap.size = b7 at *
          have KC : Hid (∀ w' : World, Below W7.heap.size W7 w' → w'.cell? ⟨b7, 0, none⟩ = some (.int .i64 F)) := hide (fun w' hb' => (X7.out.below hb').1.1)
          have q0 := KC.out W7 (Below.refl _ _)
          have hfd : ∀ (w : World) (v : Value), (Instr.field 32 (.agg #[.int .i64 F, .int .i64 0, v]) 0).run Tryz.prog w = .ok (.int .i64 F) w := fun _ _ => by kernel_rfl
          go_region_held3 (fun w' => w'.cell? ⟨b7, 0, none⟩ = some (.int .i64 F)) (first | exact KC.out _ BB5.out | go_keep)
            ((go_at_call 15; refine (HSP.out _ (below_next BW7.out (Below.refl _ _).drew)).mono ?_; rintro r w8 ⟨xv5, xc5, rfl, hb5⟩; have BB5 := hide ((Below.refl W7.heap.size W7).drew.trans hb5); clear hb5))
          go_wp2_with fail
          go_ret
          exact ⟨rfl, below_next B7.out BB5.out⟩
      · have HVF : V = false := by rw [HV.out]; exact hidB_bad (fun hk => hq (askP_right hk).2)
        subst HVF
        have hq2 : (faultP p != 0) = true := by simpa using hq
        generalize faultP p = F at *
        clear hq
        go_wp2_with fail
        refine (specHidesBelow_any av cv L.length L p w5 RL5.out rfl (by omega) HS.out hp).mono ?_
        rintro r w6 ⟨rfl, hb6⟩
        rw [← HV.out]
        have B6 := hide (below_next B5.out hb6)
        clear hb6
        go_wp2_with fail
        go_ret
        exact ⟨rfl, B6.out⟩
    · have HVF : V = false := by rw [HV.out]; exact hidB_bad (fun hk => hz (right_P.2 (askP_right hk).1))
      subst HVF
      have hq2 : (layFaultP L != 0) = true := by simpa using hz
      generalize layFaultP L = F at *
      clear hz
      go_wp2_with fail
      refine (specHidesBelow_any av cv L.length L p w4 RL4.out rfl (by omega) HS.out hp).mono ?_
      rintro r w6 ⟨rfl, hb6⟩
      rw [← HV.out]
      have B6 := hide (below_next B4.out hb6)
      clear hb6
      go_wp2_with fail
      go_ret
      exact ⟨rfl, B6.out⟩

set_option maxRecDepth 100000 in
theorem lifted (os : Os) (started : os.Started) (H : Type) (enc : TypeId × Value → H) :
    ReturnsInHanded {} Tryz.checked os 3 .any (Rows.fnHidesSpec.pre6 enc Tryz.prog Tryz.f3 Rows.fnHidesRow.domain false) (Rows.fnHidesSpec.post enc Tryz.prog Tryz.f3 false true false false) := by
  refine returnsInHanded_of_change (C := Tryz.checked) own started (by kernel_rfl) Tryz.func3
    (ChangeSpec.witness6 (enc := enc) (C := Tryz.checked) false ⟨#[], #[.slice none 0 0], []⟩ 8 (by kernel_rfl) (by kernel_rfl) (by kernel_rfl) (by kernel_rfl)) ?_
  intro W base args ds gs before hval0 hW hcnd _
  have hval : ∀ (j : Nat) t v, Tryz.f3.params[j]? = some t → args[j]? = some v → Value.okWide Tryz.prog W .any base t v := hval0
  have hW' := hW
  obtain ⟨p, q, hA0, hV, rfl, hfz, hnd⟩ := hW
  have hA : DataW.TrodAll enc Tryz.prog W 0 (fun _ => true) true Tryz.f3.params.toList args.toList ds p := hA0
  rw [Tryz.params3] at hA hval
  obtain ⟨v0, vs0, d0, ds0, p0, q0, hargs, rfl, rfl, h0, r0⟩ := trodAll_cons hA
  obtain ⟨rfl, rfl, rfl⟩ := trodAll_nil r0
  obtain rfl : args = #[v0] := by cases args; simp_all
  obtain ⟨rfl, rfl⟩ := trodVars_none hV
  obtain ⟨a0, len0, cap0, rfl⟩ := okWide_slice Tryz.underlying22 (hval 0 22 v0 rfl rfl)
  have k0 := h0
  have lt0 : ∀ x ∈ p0, x.block < W.heap.size := by obtain ⟨m, hm⟩ := k0; exact DataW.trod_lt m _ _ _ hm
  obtain ⟨zs, hlen, hread, hu, hmax⟩ : ∃ zs : List Int, zs.length = len0 ∧ Reads .u8 W a0 zs ∧ U8 zs ∧ zs.length ≤ maxLen := by
    obtain ⟨fuel, hf⟩ := h0
    rcases open_ints Tryz.underlying22 Tryz.underlying5 (by kernel_rfl) hf with ⟨hcs, _⟩ | ⟨x, l, c, zs, hcs, _, hl, hm, hz, _, hcell, hwz⟩
    · simp [Value.cells] at hcs
      obtain ⟨rfl, rfl, rfl⟩ := hcs
      exact ⟨[], rfl, fun h => absurd rfl h, fun z hz => by simp at hz, Nat.zero_le _⟩
    · simp [Value.cells] at hcs
      obtain ⟨rfl, rfl, rfl⟩ := hcs
      exact reads_of_row (by simpa using hz) hl hm hcell hwz
  subst hlen
  clear hA0 hval0
  refine (walk a0 cap0 zs W hread hu hmax).mono fun e W' ⟨he, bel⟩ => ?_
  subst he
  exact ⟨_, rfl, _, _, _, [], _, [], hW', trodAll_mk1 (shut_bool Tryz.underlying4 _), (trodAll_cons_mk (Below.trod laidOut (by kernel_rfl) (of_decide_eq_true (by kernel_rfl)) k0 bel lt0) trodAll_mk0), rfl, bel.frame _, fun h => by cases h⟩

theorem over : Rows.fnHidesRow.holds Tryz.pinned (OpenSpec.ofChange Rows.fnHidesSpec) :=
  OpenClaim.holds_of_wide 3 Tryz.f3 rfl rfl rfl rfl rfl rfl rfl ⟨rfl, rfl, rfl, rfl, rfl⟩ rfl rfl rfl rfl rfl (by kernel_rfl) Tryz.func3 (by kernel_rfl)
    (of_decide_eq_true (by kernel_rfl)) (by unfold Func.isWrapper; first | (rw [if_pos (by decide +kernel)]; kernel_rfl) | (rw [if_neg (by decide +kernel)]; exact ⟨rfl, rfl⟩))
    (fun os started H enc _ => lifted os started H enc)

end Go.Proofs.YtmpojjlpopimfaaGreat.fnHides
namespace Go.Proofs.YtmpojjlpopimfaaGreat
theorem fnHides_holds : Rows.FnHidesSaid := fnHides.over
#print axioms fnHides_holds
end Go.Proofs.YtmpojjlpopimfaaGreat
