/-
  At every byte slice the law FnMerges returns true: behind a layer there is what it says, and all that it does not speak of. No condition.
-/
import Derived.Test.YtmpojjlpopimfaaGreatMerF
import Derived.Test.YtmpojjlpopimfaaGreatIteH
import Derived.ProofKit
import Derived.Deep.CutRange
import Derived.OpenShut
import Derived.ShutString
import Derived.ChangeOld
import Derived.Deep.DrawnRows
import Derived.Deep.RegionHeld3
namespace Go.Proofs.YtmpojjlpopimfaaGreat.fnMerges
open Go.ChangeShapes Go.WideShapes Go.ChangeAt Go.RowKit Go.Maps
set_option linter.unusedVariables false
attribute [local go_sem ↓] Go.wp_at_zero Go.wp_at_succ

theorem own : ownKnob Tryz.prog.godebug = none := by kernel_rfl
theorem laidOut : laidOutB Tryz.prog = true := by kernel_rfl

theorem lwBig_no (a : Option Addr) (cap : Nat) (n : Nat) (w : World) (h : n ≤ 1048576) :
    Calls Tryz.prog 7 #[.slice a n cap] w fun e w' => e = .returned (.bool false) ∧ w' = w := by
  have hb : ¬ (1048576 : Int) < (n : Int) := by omega
  go_enter Tryz.func7, Tryz.ntmps7
  go_wp2
  go_ret
  exact ⟨ret_bool (by simp <;> omega), rfl⟩
theorem lwBig_yes (a : Option Addr) (cap : Nat) (n : Nat) (w : World) (h : 1048576 < n) (h2 : n ≤ maxLen) :
    Calls Tryz.prog 7 #[.slice a n cap] w fun e w' => e = .returned (.bool true) ∧ w' = w := by
  have hb : (1048576 : Int) < (n : Int) := by omega
  unfold maxLen at h2
  go_enter Tryz.func7, Tryz.ntmps7
  go_wp2
  go_ret
  exact ⟨ret_bool (by simp <;> omega), rfl⟩

theorem box_two {w : World} {B : Nat} {u v : Value} (h : Box w B u v) (u' v' : Value) : Box ((w.setCell ⟨B, 0, none⟩ u').setCell ⟨B, 1, none⟩ v') B u' v' := by
  obtain ⟨⟨m0, m1⟩, m2, m3⟩ := h
  refine ⟨⟨?_, ?_⟩, ?_, ?_⟩
  · rw [cell_set_other (by simp)]; exact cell_set_same m0
  · exact cell_set_same (u := v) (by rw [cell_set_other (by simp)]; exact m1)
  · rw [World.frozen?_setCell, World.frozen?_setCell]; exact m2
  · rw [World.frozen?_setCell, World.frozen?_setCell]; exact m3
theorem drewN_below {B : Nat} {w w' : World} (h : Below B w w') : ∀ n, Below B w (w'.drewN n)
  | 0 => h
  | n + 1 => (drewN_below h n).drew
theorem rd_kind1 {w : World} {a : Option Addr} {e : En} (h : RdE w a [e]) : ∃ b off, a = some ⟨b, off, none⟩ ∧ b < w.heap.size ∧ w.cell? ⟨b, off + 1, none⟩ = some (.int .i64 e.kind) := by
  obtain ⟨b, off, e', x, c, rfl, hb, he, c0, c1, -⟩ := h.at (k := 0) (by simp)
  simp at he
  subst he
  exact ⟨b, off, rfl, hb, by simpa using c1⟩
set_option maxRecDepth 100000 in
set_option maxHeartbeats 25600000 in
theorem walk (a0 : Option Addr) (cap0 : Nat) (zs : List Int) (w : World) (h : Reads .u8 w a0 zs) (hu : U8 zs) (hmax : zs.length ≤ maxLen) :
    Calls Tryz.prog 4 #[.slice a0 zs.length cap0] w fun e w' => e = .returned (.bool true) ∧ Below w.heap.size w w' := by
  have HR := hide h
  have HU := hide hu
  clear h hu
  by_cases hbig : 1048576 < zs.length
  · go_enter Tryz.func4, Tryz.ntmps4
    go_wp2_with fail
    refine (lwBig_yes _ _ _ _ hbig hmax).mono ?_
    rintro e w ⟨rfl, rfl⟩
    go_wp2_with fail
    go_ret
    exact ⟨rfl, Below.refl _ _⟩
  · go_enter Tryz.func4, Tryz.ntmps4
    go_wp2_with fail
    refine (lwBig_no _ _ _ _ (by omega)).mono ?_
    rintro e w ⟨rfl, rfl⟩
    go_wp2_with fail
    refine (drawMergeLayer_any a0 cap0 zs _ HR.out HU.out (by omega)).mono ?_
    rintro e w1 ⟨t, tv, tc, L, bv, bc, rfl, ⟨hgt, hgl⟩, ⟨htl, hll⟩, ⟨hts, hls⟩, ⟨hrt, hrl⟩, hcap, hb1⟩
    have HGT := hide hgt
    have HTS := hide hts
    have HS := hide hls
    have RT := hide hrt
    have RL := hide hrl
    have B1 := hide hb1
    have HSM := hide (smg_mrg hgt hgl.good)
    clear hgt hgl hts hls hrt hrl hb1 HR HU hbig hmax
    go_wp2_with fail
    refine (implMergeLayer_any tv tc t.length t bv bc L.length L w1 RT.out rfl (by omega) HTS.out RL.out rfl (by omega) HS.out).mono ?_
    rintro r w7 ⟨mv, mc, rfl, hG7, hb7⟩
    have HSP : Hid (∀ u : World, Below w1.heap.size w1 u → Calls Tryz.prog 15 #[.slice tv t.length tc, .slice bv L.length bc] u (ResT (mrgCode t L) 0 (mrgList t L) u)) := hide (fun u hb' => by
      have h1 := specMergeLayer_any tv tc t.length t bv bc L.length L u (RT.out.below hb') rfl (by omega) HTS.out (RL.out.below hb') rfl (by omega) HS.out HGT.out
      rw [HSM.out.1, HSM.out.2] at h1
      exact h1)
    have A7 := hide (below_alloc w7 (.cells #[.int .i64 (mrgCode t L), .int .i64 0, .slice mv (mrgList t L).length mc] 32))
    have X7 := hide (Box3.new w7 (.int .i64 (mrgCode t L)) (.int .i64 0) (.slice mv (mrgList t L).length mc) 32)
    have BW7 := hide (below_next hb7 A7.out)
    have B7 := hide (below_next B1.out BW7.out)
    have RM7 := hide (hG7.rd.below A7.out)
    have RL7 := hide (RL.out.below BW7.out)
    have RT7 := hide (RT.out.below BW7.out)
    clear hG7 hb7 A7 B1 HSM HGT
    by_cases hc : mrgCode t L = 0
    · obtain ⟨hRt, hRL, hML, h40⟩ := mrg_zero hc
      have hFT := (rightT_fit.1 hRt).1
      rw [hc, hML] at X7 HSP BW7 B7 RM7 RL7 RT7 ⊢
      have HSay := hide (fun e he => stat_says hFT hRL h40 (e := e) he)
      have HSty := hide (fun x hx h1 h2 => stat_stays hFT hRL h40 (x := x) hx h1 h2)
      have HAg := hide (merge_again hFT hRL h40)
      have HRM := hide (merge_right hFT hRL h40)
      have HMS := hide (merge_fit hFT (right_fit.1 hRL).1).fit.small
      have HRL := hide hRL
      generalize mergeE t L = M at *
      clear hRt hRL hML hc hFT
      obtain ⟨⟨t0, t1, t2⟩, t3, t4, t5⟩ := X7.out
      go_wp2_with fail
      clear t0 t1 t2 t3 t4 t5
      generalize w7.alloc (.cells #[.int .i64 0, .int .i64 0, .slice mv M.length mc] 32) = W7 at *
      generalize w7.heap.size = b7 at *
      have HTF := implTreeFault_any mv mc M.length M W7 RM7.out rfl (by omega) HMS.out
      rw [rightT_P.2 HRM.out] at HTF
      refine HTF.mono ?_
      rintro r w8 ⟨rfl, hb8⟩
      have X8 := hide (X7.out.below hb8)
      have RM8 := hide (RM7.out.below hb8)
      have RL8 := hide (RL7.out.below hb8)
      have RT8 := hide (RT7.out.below hb8)
      have B8 := hide (below_next B7.out hb8)
      have BW8 := hide (below_next BW7.out hb8)
      clear hb8 HTF X7 RM7 RL7 RT7 B7 BW7 RT RL
      go_wp2_with fail
      go_loopw [6] (fun i wr => ∃ k : Nat, k ≤ L.length ∧ i = .int .i64 k ∧ Hid (Below w8.heap.size w8 wr)) (fun i _ => L.length - (intOf i).toNat)
      case atStart => exact ⟨0, Nat.zero_le _, rfl, hide (Below.refl _ _)⟩
      case round =>
        obtain ⟨k, hk, rfl, HW⟩ := hrel
        have HWo := HW
        by_cases hlt : k < L.length
        · obtain ⟨bl, ol, e, x, cc, hbv, hbl, he, y0, y1, y2, y3, hr⟩ := RL8.out.at hlt
          subst hbv
          have HX := hide (List.mem_of_getElem? he)
          have hse := (HS.out e HX.out).1
          have KL : Hid (∀ w' : World, Below w8.heap.size w8 w' → w'.cell? ⟨b7, 2, none⟩ = some (.slice mv M.length mc) ∧ w'.cell? ⟨bl, ol + k * 4, none⟩ = some (.string (str e.path)) ∧ w'.cell? ⟨bl, ol + k * 4 + 1, none⟩ = some (.int .i64 e.kind)) := hide (fun w' hb' => ⟨(X8.out.below hb').1.2.2, (hb'.cell (p := ⟨bl, ol + k * 4, none⟩) hbl).trans y0, (hb'.cell (p := ⟨bl, ol + k * 4 + 1, none⟩) hbl).trans y1⟩)
          have hef := HRL.out.ent e HX.out
          clear he hr y0 y1 y2 y3
          obtain ⟨q0, q1, q2⟩ := KL.out _ HW.out
          have hk0 : (0 : Int) ≤ (k : Int) := by omega
          have hk1 : (k : Int) < (L.length : Int) := by omega
          have HEA := hide (fun u (hu : Below w8.heap.size w8 u) => implStatTree_any mv mc M.length M e.path u (RM8.out.below hu) rfl (by omega) HMS.out hse)
          go_upto_region 12 with fail
          go_cut [7] from 33 to 76 (fun v9 wc => ∃ (b9 : Nat) (ya : Option Addr) (yc : Nat), v9 = .pointer (some ⟨b9, 0, none⟩) ∧ Hid (Box wc b9 (.int .i64 (statC M e.path)) (.slice ya (statL M e.path).length yc)) ∧ Hid (RdE wc ya (statL M e.path)) ∧ Hid (Below w8.heap.size w8 wc))
          case first =>
            go_region_held3 (fun w' => w'.cell? ⟨b7, 2, none⟩ = some (.slice mv M.length mc) ∧ w'.cell? ⟨bl, ol + k * 4, none⟩ = some (.string (str e.path)) ∧ w'.cell? ⟨bl, ol + k * 4 + 1, none⟩ = some (.int .i64 e.kind)) (first | exact KL.out _ BB1.out | exact KL.out _ (below_next BB1.out (below_alloc _ _)) | exact KL.out _ ((BB1.out.setCell (p := ⟨wr.heap.size, 0, none⟩) HW.out.size _).setCell (p := ⟨wr.heap.size, 1, none⟩) HW.out.size _) | exact KL.out _ (below_next HW.out (below_alloc _ _)).drew | go_keep)
              ((first
                | (go_at_call 20; refine (HEA.out _ (by first | exact HW.out.drew | exact (below_next HW.out (below_alloc _ _)).drew)).mono ?_; rintro r w9 ⟨ya, yc, rfl, hG9, hb9⟩; have BB1 : Hid (Below w8.heap.size w8 w9) := hide (by first | exact below_next HW.out.drew hb9 | exact below_next (below_next HW.out (below_alloc _ _)).drew hb9); have GY := hide hG9; (first | (have X9 : Box w9 wr.heap.size (.int .i64 0) (.slice none 0 0) := (Box.new wr (.int .i64 0) (.slice none 0 0) 39).below ((Below.refl _ _).drew.trans hb9); have HX9 := hide X9; obtain ⟨⟨m0, m1⟩, m2, m3⟩ := X9) | skip); clear hG9 hb9)))
            · go_wp2_with fail
              go_meet
              case rel => exact ⟨w9.heap.size, ya, yc, rfl, hide (Box.new w9 _ _ _), hide (GY.out.rd.below (below_alloc _ _)), hide (below_next BB1.out (below_alloc _ _))⟩
            · go_wp2_with fail
              go_meet
              case rel => exact ⟨wr.heap.size, ya, yc, rfl, hide (box_two HX9.out _ _), hide ((GY.out.kept (Kept.two w9 wr.heap.size 0 1 _ _) (fun x h1 _ h2 => by simp at h1; omega)).rd), hide ((BB1.out.setCell (p := ⟨wr.heap.size, 0, none⟩) HW.out.size _).setCell (p := ⟨wr.heap.size, 1, none⟩) HW.out.size _)⟩
          case rest =>
            obtain ⟨b9, ya, yc, rfl, X9, RY, B9⟩ := hcut
            clear HEA q0 q1 q2 HW
            obtain ⟨q0, q1, q2⟩ := KL.out _ B9.out
            obtain ⟨hs3, hsn⟩ := HSay.out e HX.out
            by_cases h3 : e.kind = 3
            · obtain ⟨hc1, hc2⟩ := hs3 h3
              rw [hc1, hc2] at X9
              rw [h3] at q2
              clear hs3 hsn hc1 hc2 h3 RY
              obtain ⟨⟨m0, m1⟩, -, -⟩ := X9.out
              go_upto_region 13 with fail
              go_quiet (fail)
              go_wp2_with fail
              go_roundw
              case rel => exact ⟨k + 1, by omega, by go_num, hide (drewN_below B9.out _)⟩
              case measure => simp [intOf]; omega
            · obtain ⟨hc1, hc2⟩ := hsn h3
              rw [hc1, hc2] at X9
              rw [hc2] at RY
              obtain ⟨yb, yo, rfl, hyb, z1⟩ := rd_kind1 RY.out
              have hki : ((asT e).kind = 1) ↔ (e.kind = 1) := asT_file hef
              have h3' : (e.kind != 3) = true := by simpa using h3
              have h3'' : (e.kind == 3) = false := by simpa using h3
              clear hs3 hsn hc1 hc2 RY
              obtain ⟨⟨m0, m1⟩, -, -⟩ := X9.out
              by_cases h1 : e.kind = 1
              · have hk1' : (e.kind == 1) = true := by simpa using h1
                have hk2' : ((asT e).kind == 1) = true := by simpa using hki.2 h1
                clear h1 h3 hki
                go_upto_region 13 with fail
                go_quiet (fail)
                go_wp2_with fail
                go_roundw
                case rel => exact ⟨k + 1, by omega, by go_num, hide (drewN_below B9.out _)⟩
                case measure => simp [intOf]; omega
              · have hk1' : (e.kind == 1) = false := by simpa using h1
                have hk2' : ((asT e).kind == 1) = false := by simpa using fun hq => h1 (hki.1 hq)
                clear h1 h3 hki
                go_upto_region 13 with fail
                go_quiet (fail)
                go_wp2_with fail
                go_roundw
                case rel => exact ⟨k + 1, by omega, by go_num, hide (drewN_below B9.out _)⟩
                case measure => simp [intOf]; omega
        · clear HSay HRL HW
          have HW : Hid (Below w8.heap.size w8 wr) := HWo
          go_wp2_with fail
          go_loopw [8] (fun i wx => ∃ m : Nat, m ≤ t.length ∧ i = .int .i64 m ∧ Hid (Below w8.heap.size w8 wx)) (fun i _ => t.length - (intOf i).toNat)
          case atStart => exact ⟨0, Nat.zero_le _, rfl, HW⟩
          case round =>
            obtain ⟨m, hm, rfl, HW2⟩ := hrel
            have KB : Hid (∀ w' : World, Below w8.heap.size w8 w' → w'.cell? ⟨b7, 2, none⟩ = some (.slice mv M.length mc)) := hide (fun w' hb' => (X8.out.below hb').1.2.2)
            have hfl : ∀ (w : World) (F : Int) (v : Value), (Instr.field 39 (.agg #[.int .i64 F, v]) 0).run Tryz.prog w = .ok (.int .i64 F) w := fun _ _ _ => by kernel_rfl
            have hfl1 : ∀ (w : World) (F : Int) (v : Value), (Instr.field 39 (.agg #[.int .i64 F, v]) 1).run Tryz.prog w = .ok v w := fun _ _ _ => by kernel_rfl
            have hft : ∀ (w : World) (v : Value), (Instr.field 32 (.agg #[.int .i64 0, .int .i64 0, v]) 2).run Tryz.prog w = .ok v w := fun _ _ => by kernel_rfl
            by_cases hlt2 : m < t.length
            · obtain ⟨bt, ot, x, xa, xc, htv, hbt, hx, y0, y1, y2, y3, hr⟩ := RT8.out.at hlt2
              subst htv
              have HXM := hide (List.mem_of_getElem? hx)
              have HXI := hide hx
              have hsx := HTS.out x HXM.out
              have KT : Hid (∀ w' : World, Below w8.heap.size w8 w' → w'.cell? ⟨b7, 2, none⟩ = some (.slice mv M.length mc) ∧ w'.cell? ⟨bt, ot + m * 4, none⟩ = some (.string (str x.path))) := hide (fun w' hb' => ⟨KB.out _ hb', (hb'.cell (p := ⟨bt, ot + m * 4, none⟩) hbt).trans y0⟩)
              clear hx hr y0 y1 y2 y3
              obtain ⟨q0, q1⟩ := KT.out _ HW2.out
              have hm0 : (0 : Int) ≤ (m : Int) := by omega
              have hm1 : (m : Int) < (t.length : Int) := by omega
              have HEA := hide (implEntryAt_any bv bc L.length L x.path wr (RL8.out.below HW2.out) rfl (by omega) HS.out hsx.1)
              go_wp2_with fail
              refine HEA.out.mono ?_
              rintro r w9 ⟨ev, ec, rfl, -, hb9⟩
              have B9 := hide (below_next HW2.out hb9)
              clear hb9 HEA q0 q1
              obtain ⟨q0, q1⟩ := KT.out _ B9.out
              by_cases hfc : findCodeP L x.path = 0
              · rw [hfc]
                clear hfc
                go_wp2_with fail
                go_roundw
                case rel => exact ⟨m + 1, by omega, by go_num, B9⟩
                case measure => simp [intOf]; omega
              · have hfc' : (findCodeP L x.path == 0) = false := by simpa using hfc
                have HHB := hide (implHidesBelow_any bv bc L.length L x.path w9 (RL8.out.below B9.out) rfl (by omega) HS.out hsx.1)
                go_wp2_with fail
                refine HHB.out.mono ?_
                rintro r w10 ⟨rfl, hb10⟩
                have B10 := hide (below_next B9.out hb10)
                clear hb10 HHB q0 q1
                obtain ⟨q0, q1⟩ := KT.out _ B10.out
                cases hhb : hidB L x.path
                · obtain ⟨hs0, hs1⟩ := HSty.out x HXM.out hfc hhb
                  have HST := hide (fun u (hu : Below w8.heap.size w8 u) => implStatTree_any mv mc M.length M x.path u (RM8.out.below hu) rfl (by omega) HMS.out hsx.1)
                  rw [hs0, hs1] at HST
                  have RS := hide (RT8.out.one HXI.out)
                  have HSL0 : Hid (∀ (u : World) (sv : Option Addr) (sc cc : Nat), RdE u sv [x] → Below w8.heap.size w8 u → Calls Tryz.prog 21 #[.slice sv 1 sc, .slice (some ⟨bt, ot + m * 4, none⟩) 1 cc] u fun r w' => r = .returned (.bool true) ∧ Below u.heap.size u w') := hide (fun u sv sc cc hr hu => by
                    have h1 := implSameLayers_any sv _ sc cc 1 1 [x] [x] u hr (RS.out.below hu) rfl rfl (by simp) (by simp) (fun z hz => by simp at hz; subst hz; exact hsx) (fun z hz => by simp at hz; subst hz; exact hsx)
                    rw [decide_eq_true rfl] at h1
                    exact h1)
                  have hm2 : (m : Int) ≤ (m : Int) + 1 := by omega
                  have hm3 : (m : Int) + 1 ≤ (tc : Int) := by omega
                  have hm4 : IntKind.i64.wrap ((m : Int) + 1) = (m : Int) + 1 := by simp [IntKind.wrap, IntKind.signed, IntKind.bits]; omega
                  have hm5 : (0 : Int) ≤ (m : Int) + 1 := by omega
                  clear hfc hhb hs0 hs1 hfc'
                  go_wp2_with fail
                  go_region_held3 (fun w' => w'.cell? ⟨b7, 2, none⟩ = some (.slice mv M.length mc) ∧ w'.cell? ⟨bt, ot + m * 4, none⟩ = some (.string (str x.path))) (first | exact KT.out _ BB2.out | exact KT.out _ BB1.out | exact KT.out _ B10.out.drew | go_keep)
                    ((first
                      | (go_at_call 20; refine (HST.out _ B10.out.drew).mono ?_; rintro r w11 ⟨sv, sc, rfl, hG11, hb11⟩; have BB1 := hide (below_next B10.out.drew hb11); have GS := hide hG11.rd; clear hG11 hb11)
                      | (go_at_call 21; refine (HSL0.out _ sv sc _ GS.out BB1.out).mono ?_; rintro r w12 ⟨rfl, hb12⟩; have BB2 := hide (below_next BB1.out hb12); clear hb12)))
                  go_wp2_with fail
                  go_roundw
                  case rel => exact ⟨m + 1, by omega, by go_num, BB2⟩
                  case measure => simp [intOf]; omega
                · clear hfc hhb hfc'
                  go_wp2_with fail
                  go_roundw
                  case rel => exact ⟨m + 1, by omega, by go_num, B10⟩
                  case measure => simp [intOf]; omega
            · have q0 := KB.out _ HW2.out
              have HM1 := hide (fun u (hu : Below w8.heap.size w8 u) => implMergeLayer_any mv mc M.length M bv bc L.length L u (RM8.out.below hu) rfl (by omega) HMS.out (RL8.out.below hu) rfl (by omega) HS.out)
              rw [HAg.out.1, HAg.out.2] at HM1
              have HM2 := hide (fun u (hu : Below w8.heap.size w8 u) => HSP.out u (below_next BW8.out hu))
              have HSL1 : Hid (∀ (u : World) (sv : Option Addr) (sc : Nat), RdE u sv M → Below w8.heap.size w8 u → Calls Tryz.prog 21 #[.slice sv M.length sc, .slice mv M.length mc] u fun r w' => r = .returned (.bool true) ∧ Below u.heap.size u w') := hide (fun u sv sc hr hu => by
                have h1 := implSameLayers_any sv mv sc mc M.length M.length M M u hr (RM8.out.below hu) rfl rfl (by omega) (by omega) HMS.out HMS.out
                rw [decide_eq_true rfl] at h1
                exact h1)
              have HSL2 : Hid (∀ (u : World) (sv : Option Addr) (sc : Nat), RdE u sv M → Below w8.heap.size w8 u → Calls Tryz.prog 21 #[.slice mv M.length mc, .slice sv M.length sc] u fun r w' => r = .returned (.bool true) ∧ Below u.heap.size u w') := hide (fun u sv sc hr hu => by
                have h1 := implSameLayers_any mv sv mc sc M.length M.length M M u (RM8.out.below hu) hr rfl rfl (by omega) (by omega) HMS.out HMS.out
                rw [decide_eq_true rfl] at h1
                exact h1)
              go_wp2_with fail
              go_region_held3 (fun w' => w'.cell? ⟨b7, 2, none⟩ = some (.slice mv M.length mc)) (first | exact KB.out _ BB4.out | exact KB.out _ BB3.out | exact KB.out _ BB2.out | exact KB.out _ BB1.out | exact KB.out _ HW2.out.drew | go_keep)
                ((first
                  | (go_at_call 14; refine (HM1.out _ HW2.out.drew).mono ?_; rintro r w11 ⟨sv, sc, rfl, hG11, hb11⟩; have BB1 := hide (below_next HW2.out.drew hb11); have GS := hide hG11.rd; clear hG11 hb11)
                  | (go_at_call 15; refine (HM2.out _ BB2.out).mono ?_; rintro r w13 ⟨sv3, sc3, rfl, hG13, hb13⟩; have BB3 := hide (below_next BB2.out hb13); have GS3 := hide hG13.rd; clear hG13 hb13)
                  | (go_at_call 21; refine (HSL2.out _ sv3 sc3 GS3.out BB3.out).mono ?_; rintro r w14 ⟨rfl, hb14⟩; have BB4 := hide (below_next BB3.out hb14); clear hb14)
                  | (go_at_call 21; refine (HSL1.out _ sv sc GS.out BB1.out).mono ?_; rintro r w12 ⟨rfl, hb12⟩; have BB2 := hide (below_next BB1.out hb12); clear hb12)))
              go_wp2_with fail
              go_ret
              exact ⟨rfl, below_next B8.out BB4.out⟩
    · generalize mrgList t L = DL at *
      generalize mrgCode t L = F at *
      have hz2 : (F != 0) = true := by simp; exact hc
      have hff : (F == F) = true := by simp
      clear hc
      obtain ⟨⟨t0, t1, t2⟩, t3, t4, t5⟩ := X7.out
      go_wp2_with fail
      clear t0 t1 t2 t3 t4 t5
      generalize w7.alloc (.cells #[.int .i64 F, .int .i64 0, .slice mv DL.length mc] 32) = W7 at *
      generalize w7.heap.size = b7 at *
      have KC : Hid (∀ w' : World, Below W7.heap.size W7 w' → w'.cell? ⟨b7, 0, none⟩ = some (.int .i64 F)) := hide (fun w' hb' => (X7.out.below hb').1.1)
      have q0 := KC.out W7 (Below.refl _ _)
      have hfd : ∀ (w : World) (v : Value), (Instr.field 32 (.agg #[.int .i64 F, .int .i64 0, v]) 0).run Tryz.prog w = .ok (.int .i64 F) w := fun _ _ => by kernel_rfl
      go_region_held3 (fun w' => w'.cell? ⟨b7, 0, none⟩ = some (.int .i64 F)) (first | exact KC.out _ BB5.out | go_keep)
        ((go_at_call 15; refine (HSP.out _ (below_next BW7.out (Below.refl _ _).drew)).mono ?_; rintro r w8 ⟨xv5, xc5, rfl, -, hb5⟩; have BB5 := hide ((Below.refl W7.heap.size W7).drew.trans hb5); clear hb5))
      go_wp2_with fail
      go_ret
      exact ⟨rfl, below_next B7.out BB5.out⟩

set_option maxRecDepth 100000 in
theorem lifted (os : Os) (started : os.Started) (H : Type) (enc : TypeId × Value → H) :
    ReturnsInHanded {} Tryz.checked os 4 .any (Rows.fnMergesSpec.pre6 enc Tryz.prog Tryz.f4 Rows.fnMergesRow.domain false) (Rows.fnMergesSpec.post enc Tryz.prog Tryz.f4 false true false false) := by
  refine returnsInHanded_of_change (C := Tryz.checked) own started (by kernel_rfl) Tryz.func4
    (ChangeSpec.witness6 (enc := enc) (C := Tryz.checked) false ⟨#[], #[.slice none 0 0], []⟩ 8 (by kernel_rfl) (by kernel_rfl) (by kernel_rfl) (by kernel_rfl)) ?_
  intro W base args ds gs before hval0 hW hcnd _
  have hval : ∀ (j : Nat) t v, Tryz.f4.params[j]? = some t → args[j]? = some v → Value.okWide Tryz.prog W .any base t v := hval0
  have hW' := hW
  obtain ⟨p, q, hA0, hV, rfl, hfz, hnd⟩ := hW
  have hA : DataW.TrodAll enc Tryz.prog W 0 (fun _ => true) true Tryz.f4.params.toList args.toList ds p := hA0
  rw [Tryz.params4] at hA hval
  obtain ⟨v0, vs0, d0, ds0, p0, q0, hargs, rfl, rfl, h0, r0⟩ := trodAll_cons hA
  obtain ⟨rfl, rfl, rfl⟩ := trodAll_nil r0
  obtain rfl : args = #[v0] := by cases args; simp_all
  obtain ⟨rfl, rfl⟩ := trodVars_none hV
  obtain ⟨a0, len0, cap0, rfl⟩ := okWide_slice Tryz.underlying22 (hval 0 22 v0 rfl rfl)
  have k0 := h0
  have lt0 : ∀ x ∈ p0, x.block < W.heap.size := by obtain ⟨m, hm⟩ := k0; exact DataW.trod_lt m _ _ _ hm
  obtain ⟨zs, hlen, hread, hu, hmax⟩ : ∃ zs : List Int, zs.length = len0 ∧ Reads .u8 W a0 zs ∧ U8 zs ∧ zs.length ≤ maxLen := by
    obtain ⟨fuel, hf⟩ := h0
    rcases open_ints Tryz.underlying22 Tryz.underlying5 (by kernel_rfl) hf with ⟨hcs, _⟩ | ⟨x, l, c, zs, hcs, _, hl, hm, hz, _, hcell, hwz⟩
    · simp [Value.cells] at hcs
      obtain ⟨rfl, rfl, rfl⟩ := hcs
      exact ⟨[], rfl, fun h => absurd rfl h, fun z hz => by simp at hz, Nat.zero_le _⟩
    · simp [Value.cells] at hcs
      obtain ⟨rfl, rfl, rfl⟩ := hcs
      exact reads_of_row (by simpa using hz) hl hm hcell hwz
  subst hlen
  clear hA0 hval0
  refine (walk a0 cap0 zs W hread hu hmax).mono fun e W' ⟨he, bel⟩ => ?_
  subst he
  exact ⟨_, rfl, _, _, _, [], _, [], hW', trodAll_mk1 (shut_bool Tryz.underlying4 _), (trodAll_cons_mk (Below.trod laidOut (by kernel_rfl) (of_decide_eq_true (by kernel_rfl)) k0 bel lt0) trodAll_mk0), rfl, bel.frame _, fun h => by cases h⟩

theorem over : Rows.fnMergesRow.holds Tryz.pinned (OpenSpec.ofChange Rows.fnMergesSpec) :=
  OpenClaim.holds_of_wide 4 Tryz.f4 rfl rfl rfl rfl rfl rfl rfl ⟨rfl, rfl, rfl, rfl, rfl⟩ rfl rfl rfl rfl rfl (by kernel_rfl) Tryz.func4 (by kernel_rfl)
    (of_decide_eq_true (by kernel_rfl)) (by unfold Func.isWrapper; first | (rw [if_pos (by decide +kernel)]; kernel_rfl) | (rw [if_neg (by decide +kernel)]; exact ⟨rfl, rfl⟩))
    (fun os started H enc _ => lifted os started H enc)

end Go.Proofs.YtmpojjlpopimfaaGreat.fnMerges
namespace Go.Proofs.YtmpojjlpopimfaaGreat
theorem fnMerges_holds : Rows.FnMergesSaid := fnMerges.over
#print axioms fnMerges_holds
end Go.Proofs.YtmpojjlpopimfaaGreat
