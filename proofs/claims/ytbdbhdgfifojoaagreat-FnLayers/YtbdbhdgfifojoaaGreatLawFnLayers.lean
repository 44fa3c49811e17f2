/-
  At every byte slice the law FnLayers returns true: an entry that is put is there, all beside it stays, and the layer has no fault. No condition.
-/
import Derived.Test.YtbdbhdgfifojoaaGreatIteP
import Derived.Test.YtbdbhdgfifojoaaGreatIteG
import Derived.Test.YtbdbhdgfifojoaaGreatIteH
import Derived.Test.YtbdbhdgfifojoaaGreatDrawI
import Derived.ProofKit
import Derived.OpenShut
import Derived.ShutString
import Derived.ChangeOld
import Derived.Deep.DrawnRows
import Derived.Deep.CutRange
namespace Go.Proofs.YtbdbhdgfifojoaaGreat.fnLayers
open Go.ChangeShapes Go.WideShapes Go.ChangeAt Go.RowKit Go.Maps
set_option linter.unusedVariables false
attribute [local go_sem ↓] Go.wp_at_zero Go.wp_at_succ

theorem own : ownKnob Tryz.prog.godebug = none := by kernel_rfl
theorem laidOut : laidOutB Tryz.prog = true := by kernel_rfl
theorem lwBig_no (a : Option Addr) (cap : Nat) (n : Nat) (w : World) (h : n ≤ 1048576) :
    Calls Tryz.prog 4 #[.slice a n cap] w fun e w' => e = .returned (.bool false) ∧ w' = w := by
  have hb : ¬ (1048576 : Int) < (n : Int) := by omega
  go_enter Tryz.func4, Tryz.ntmps4
  go_wp2
  go_ret
  exact ⟨ret_bool (by simp <;> omega), rfl⟩
theorem lwBig_yes (a : Option Addr) (cap : Nat) (n : Nat) (w : World) (h : 1048576 < n) (h2 : n ≤ maxLen) :
    Calls Tryz.prog 4 #[.slice a n cap] w fun e w' => e = .returned (.bool true) ∧ w' = w := by
  have hb : (1048576 : Int) < (n : Int) := by omega
  unfold maxLen at h2
  go_enter Tryz.func4, Tryz.ntmps4
  go_wp2
  go_ret
  exact ⟨ret_bool (by simp <;> omega), rfl⟩

theorem ask_zero {L : List En} {p : Bs} (h : Right L) (hp : faultP p = 0) : askP L p = 0 := by rw [askP, if_pos (right_P.2 h)]; exact hp
theorem find_yes {L : List En} {y : En} (h : Right L) (hy : y ∈ L) : findCodeP L y.path = 0 ∧ findListP L y.path = [y] := by
  have hp := entFault_zero (h.ent y hy)
  have hc : findCodeP L y.path = 0 := by rw [findCodeP, if_pos (ask_zero h hp), rise_find h.rise hy]; rfl
  exact ⟨hc, by rw [findListP, if_pos hc, rise_find h.rise hy]; rfl⟩
theorem find_no {L : List En} {p : Bs} (h : Right L) (hp : faultP p = 0) (hn : ∀ z ∈ L, z.path ≠ p) : findCodeP L p = 4 ∧ findListP L p = [] := by
  have hc : findCodeP L p = 4 := by rw [findCodeP, if_pos (ask_zero h hp), find_none hn]; rfl
  exact ⟨hc, by rw [findListP, if_neg (by rw [hc]; decide)]⟩
theorem gone {es : List En} {e y : En} (h : Right es) (hy : y ∈ es) (hne : y.path ≠ e.path) (hk : keepE e y = false) : ∀ z ∈ putE es e, z.path ≠ y.path := by
  intro z hz hzp
  rcases mem_putE.1 hz with rfl | ⟨hz, hkz⟩
  · exact hne hzp.symm
  · have h1 := rise_find h.rise hz
    have h2 := rise_find h.rise hy
    rw [hzp, h2] at h1
    cases h1
    rw [hk] at hkz
    cases hkz
theorem rest_gone {L : List En} {p : Bs} : ∀ z ∈ restP L p, z.path ≠ p := by
  intro z hz e
  have := (List.mem_filter.1 hz).2
  simp [atBelow, e] at this

theorem below_dn {B : Nat} {w w' : World} (h : Below B w w') (n : Nat) : Below B w (w'.drewN n) := h.trans ⟨rfl, rfl, rfl, Nat.le_refl _, fun _ _ => rfl⟩
theorem rd_four {w : World} {b : Nat} {e : En} {x : Option Addr} {c : Nat} (h : Four w b (.string (str e.path)) (.int .i64 e.kind) (.int .i64 e.size) (.slice x e.chunks.length c)) (hr : Reads .i64 w x e.chunks) : RdE w (some ⟨b, 0, none⟩) [e] := by
  intro _
  refine ⟨b, 0, fun _ => x, fun _ => c, rfl, h.lt, fun i z hz => ?_⟩
  cases i with
  | zero =>
    simp at hz
    subst hz
    exact ⟨h.1, h.2.1, h.2.2.1, h.2.2.2, hr⟩
  | succ i => simp at hz
theorem box_two {w : World} {B : Nat} {u v : Value} (h : Box w B u v) (u' v' : Value) : Box ((w.setCell ⟨B, 0, none⟩ u').setCell ⟨B, 1, none⟩ v') B u' v' := by
  obtain ⟨⟨m0, m1⟩, m2, m3⟩ := h
  refine ⟨⟨?_, ?_⟩, ?_, ?_⟩
  · rw [cell_set_other (by simp)]; exact cell_set_same m0
  · exact cell_set_same (u := v) (by rw [cell_set_other (by simp)]; exact m1)
  · rw [World.frozen?_setCell, World.frozen?_setCell]; exact m2
  · rw [World.frozen?_setCell, World.frozen?_setCell]; exact m3
theorem keep_yes {es : List En} {e y : En} (hR : Right (putE es e)) (hy : y ∈ es) (hk : keepE e y = true) : findCodeP (putE es e) y.path = 0 ∧ findListP (putE es e) y.path = [y] :=
  find_yes hR (mem_putE.2 (.inr ⟨hy, hk⟩))
theorem keep_no {es : List En} {e y : En} (h : Right es) (hR : Right (putE es e)) (hy : y ∈ es) (hb : belowB y.path e.path = true) (hk : keepE e y = false) : findCodeP (putE es e) y.path = 4 := by
  have hne : y.path ≠ e.path := by
    intro he
    obtain ⟨r, hr, h1⟩ := belowB_iff.1 hb
    have := congrArg List.length h1
    rw [he] at this
    simp at this
  exact (find_no hR (entFault_zero (h.ent y hy)) (gone h hy hne hk)).1

set_option maxRecDepth 100000 in
set_option maxHeartbeats 64000000 in
theorem walk (a0 : Option Addr) (cap0 : Nat) (zs : List Int) (w : World) (h : Reads .u8 w a0 zs) (hu : U8 zs) (hmax : zs.length ≤ maxLen) :
    Calls Tryz.prog 3 #[.slice a0 zs.length cap0] w fun e w' => e = .returned (.bool true) ∧ Below w.heap.size w w' := by
  have HR := hide h
  have HU := hide hu
  clear h hu
  by_cases hbig : 1048576 < zs.length
  · go_enter Tryz.func3, Tryz.ntmps3
    go_wp2_with fail
    refine (lwBig_yes _ _ _ _ hbig hmax).mono ?_
    rintro e w1 ⟨rfl, rfl⟩
    go_wp2_with fail
    go_ret
    exact ⟨rfl, Below.refl _ _⟩
  · go_enter Tryz.func3, Tryz.ntmps3
    go_wp2_with fail
    refine (lwBig_no _ _ _ _ (by omega)).mono ?_
    rintro e w1 ⟨rfl, rfl⟩
    go_wp2_with fail
    refine (drawPut_e a0 cap0 zs _ HR.out HU.out (by omega)).mono ?_
    rintro r w2 ⟨es, lv, lcv, e, x, c, rfl, hgd, hlen, hsm, hrd, hcap, hrx, hpl, hcl, hb2⟩
    have HGd := hide hgd
    have HSm := hide hsm
    have AE := hide (below_alloc w2 (.cells #[.string (str e.path), .int .i64 e.kind, .int .i64 e.size, .slice x e.chunks.length c] 27))
    have F2 := hide (Four.new w2 (.string (str e.path)) (.int .i64 e.kind) (.int .i64 e.size) (.slice x e.chunks.length c) 27)
    have RL := hide (hrd.below AE.out)
    have RX := hide (hrx.below AE.out)
    have B2 := hide (below_next hb2 AE.out)
    clear hgd hsm hrd hrx hb2
    go_wp2_with fail
    generalize w2.alloc (.cells #[.string (str e.path), .int .i64 e.kind, .int .i64 e.size, .slice x e.chunks.length c] 27) = W2 at *
    generalize w2.heap.size = b4 at *
    obtain ⟨f0, f1, f2, f3⟩ := F2.out
    go_wp2_with fail
    refine (implPutEntry_any lv lcv es.length es e x e.chunks.length c _ RL.out rfl (by omega) HSm.out rfl RX.out hpl (by omega)).mono ?_
    rintro r w3 ⟨la, lc, rfl, hG3, hb3⟩
    have A5 := hide (below_next hb3 (below_alloc w3 (.cells #[.int .i64 (putCodeP es e), .slice la (putListP es e).length lc] 31)))
    have X5 := hide (Box.new w3 (.int .i64 (putCodeP es e)) (.slice la (putListP es e).length lc) 31)
    have F5 := hide (F2.out.below A5.out)
    have RL5 := hide (RL.out.below A5.out)
    have RX5 := hide (RX.out.below A5.out)
    have RP5 := hide (hG3.rd.below (below_alloc w3 (.cells #[.int .i64 (putCodeP es e), .slice la (putListP es e).length lc] 31)))
    have B5 := hide (below_next B2.out A5.out)
    clear hG3 hb3 A5 F2 RL RX B2 f0 f1 f2 f3 AE
    by_cases hc : putCodeP es e = 0
    · obtain ⟨hR, hef, hhome, hl12, hRL⟩ := putP_zero hc
      have hPL : putListP es e = putE es e := by rw [putListP, if_pos hc]
      have HRi := hide hR
      have HEF := hide hef
      have HRL := hide hRL
      rw [hc, hPL] at X5 F5 RL5 RX5 RP5 B5 ⊢
      clear hc hPL hR hef hhome hRL
      obtain ⟨L, hL⟩ : ∃ L, L = putE es e := ⟨_, rfl⟩
      rw [← hL] at X5 F5 RL5 RX5 RP5 B5 HRL hl12 ⊢
      have HL := hide hL
      clear hL
      obtain ⟨⟨t0, t1⟩, t2, t3⟩ := X5.out
      obtain ⟨f0, f1, f2, f3⟩ := F5.out
      go_wp2_with fail
      generalize w3.alloc (.cells #[.int .i64 0, .slice la L.length lc] 31) = W5 at *
      generalize w3.heap.size = b5 at *
      have HSL := hide (right_small HRL.out)
      have HFP := hide (entFault_zero HEF.out)
      have HFX := hide (find_yes (y := e) HRL.out (by rw [HL.out]; exact mem_putE.2 (.inl rfl)))
      have HDL := hide (show askP L e.path = 0 ∧ dropListP L e.path = restP L e.path from ⟨ask_zero HRL.out HFP.out, by rw [dropListP, if_pos (ask_zero HRL.out HFP.out)]⟩)
      refine (implEntryAt_any la lc L.length L e.path _ RP5.out rfl (by omega) HSL.out hpl).mono ?_
      rw [HFX.out.1, HFX.out.2]
      rintro r w6 ⟨xa, xc, rfl, hG6, hb6⟩
      have A6 := hide (below_next hb6 (below_alloc w6 (.cells #[.int .i64 0, .slice xa 1 xc] 31)))
      have Y6 := hide (Box.new w6 (.int .i64 0) (.slice xa 1 xc) 31)
      have RE6 := hide (hG6.rd.below (below_alloc w6 (.cells #[.int .i64 0, .slice xa 1 xc] 31)))
      have X6 := hide (X5.out.below A6.out)
      have F6 := hide (F5.out.below A6.out)
      have RL6 := hide (RL5.out.below A6.out)
      have RX6 := hide (RX5.out.below A6.out)
      have RP6 := hide (RP5.out.below A6.out)
      have B6 := hide (below_next B5.out A6.out)
      clear hG6 hb6 A6 X5 F5 RL5 RX5 RP5 B5 t0 t1 t2 t3 f0 f1 f2 f3
      obtain ⟨⟨t0, t1⟩, t2, t3⟩ := X6.out
      obtain ⟨f0, f1, f2, f3⟩ := F6.out
      go_wp2_with fail
      generalize w6.alloc (.cells #[.int .i64 0, .slice xa 1 xc] 31) = W6 at *
      generalize w6.heap.size = b6 at *
      refine (implDropBelow_any la lc L.length L e.path _ RP6.out rfl (by omega) HSL.out hpl).mono ?_
      rw [HDL.out.1, HDL.out.2]
      rintro r w7 ⟨da, dc, rfl, hG7, hb7⟩
      have HRD := hide (right_rest HRL.out HFP.out)
      have HGone := hide (rest_gone (L := L) (p := e.path))
      generalize restP L e.path = D at *
      have A7 := hide (below_next hb7 (below_alloc w7 (.cells #[.int .i64 0, .slice da D.length dc] 31)))
      have Z7 := hide (Box.new w7 (.int .i64 0) (.slice da D.length dc) 31)
      have RD7 := hide (hG7.rd.below (below_alloc w7 (.cells #[.int .i64 0, .slice da D.length dc] 31)))
      have X7 := hide (X6.out.below A7.out)
      have Y7 := hide (Y6.out.below A7.out)
      have F7 := hide (F6.out.below A7.out)
      have RL7 := hide (RL6.out.below A7.out)
      have RX7 := hide (RX6.out.below A7.out)
      have RP7 := hide (RP6.out.below A7.out)
      have RE7 := hide (RE6.out.below A7.out)
      have B7 := hide (below_next B6.out A7.out)
      clear hG7 hb7 A7 X6 Y6 F6 RL6 RX6 RP6 RE6 B6 t0 t1 t2 t3 f0 f1 f2 f3
      go_wp2_with fail
      generalize w7.alloc (.cells #[.int .i64 0, .slice da D.length dc] 31) = W7 at *
      generalize w7.heap.size = b7 at *
      have hes12 := HRi.out.len
      go_loopw [8] (fun i wr => ∃ k : Nat, k ≤ es.length ∧ i = .int .i64 k ∧ Hid (Below W7.heap.size W7 wr)) (fun i _ => es.length - (intOf i).toNat)
      case atStart => exact ⟨0, Nat.zero_le _, rfl, hide (Below.refl _ _)⟩
      case round =>
        obtain ⟨k, hk, rfl, HW⟩ := hrel
        by_cases hlt : k < es.length
        · obtain ⟨bl, ol, y, xl, cl, rfl, hbl, hy, y0, y1, y2, y3, hry⟩ := RL7.out.at hlt
          have hym := List.mem_of_getElem? hy
          have HY := hide hy
          have HYM := hide hym
          have hysm := HSm.out y hym
          have hb5W : b5 < W7.heap.size := X7.out.1.lt
          have KL : Hid (∀ w' : World, Below W7.heap.size W7 w' → (w'.cell? ⟨b4, 0, none⟩ = some (.string (str e.path)) ∧ w'.cell? ⟨b4, 1, none⟩ = some (.int .i64 e.kind) ∧ w'.cell? ⟨b4, 2, none⟩ = some (.int .i64 e.size) ∧ w'.cell? ⟨b4, 3, none⟩ = some (.slice x e.chunks.length c)) ∧ w'.cell? ⟨b5, 1, none⟩ = some (.slice la L.length lc) ∧ w'.cell? ⟨bl, ol + k * 4, none⟩ = some (.string (str y.path))) := hide (fun w' hb' => ⟨F7.out.below hb', (X7.out.below hb').1.2, (hb'.cell (p := ⟨bl, ol + k * 4, none⟩) hbl).trans y0⟩)
          clear hy hym y0 y1 y2 y3 hry
          obtain ⟨⟨f0, f1, f2, f3⟩, t1, y0⟩ := KL.out _ HW.out
          have hk0 : (0 : Int) ≤ (k : Int) := by omega
          have hk1 : (k : Int) < (es.length : Int) := by omega
          have HEA := hide (fun u (hu : Below W7.heap.size W7 u) => implEntryAt_any la lc L.length L y.path u (RP7.out.below hu) rfl (by omega) HSL.out hysm.1)
          have hfy := hide (entFault_zero (HRi.out.ent y HYM.out))
          have HKE := hide (show keepE e y = true → findCodeP L y.path = 0 ∧ findListP L y.path = [y] by intro hk; have hl := HL.out; have hr := HRL.out; subst hl; exact keep_yes hr HYM.out hk)
          have HKN := hide (show belowB y.path e.path = true → keepE e y = false → findCodeP L y.path = 4 by intro hb hk; have hl := HL.out; have hr := HRL.out; subst hl; exact keep_no HRi.out hr HYM.out hb hk)
          have HBE := hide (show isBelow y.path e.path = belowB y.path e.path by rw [isBelow_good hfy.out]; simp [HFP.out])
          go_upto_region 12 with fail
          go_cut [9] from 42 to 114 (fun v9 wc => ∃ (b9 : Nat) (ya : Option Addr) (yc : Nat), v9 = .pointer (some ⟨b9, 0, none⟩) ∧ Hid (Box wc b9 (.int .i64 (findCodeP L y.path)) (.slice ya (findListP L y.path).length yc)) ∧ Hid (RdE wc ya (findListP L y.path)) ∧ Hid (Below W7.heap.size W7 wc))
          case first =>
            go_region_held3 (fun w' => (w'.cell? ⟨b4, 0, none⟩ = some (.string (str e.path)) ∧ w'.cell? ⟨b4, 1, none⟩ = some (.int .i64 e.kind) ∧ w'.cell? ⟨b4, 2, none⟩ = some (.int .i64 e.size) ∧ w'.cell? ⟨b4, 3, none⟩ = some (.slice x e.chunks.length c)) ∧ w'.cell? ⟨b5, 1, none⟩ = some (.slice la L.length lc) ∧ w'.cell? ⟨bl, ol + k * 4, none⟩ = some (.string (str y.path))) (first | exact KL.out _ BB1.out | exact KL.out _ (below_next BB1.out (below_alloc _ _)) | exact KL.out _ ((BB1.out.setCell (p := ⟨wr.heap.size, 0, none⟩) HW.out.size _).setCell (p := ⟨wr.heap.size, 1, none⟩) HW.out.size _) | exact KL.out _ (below_next HW.out (below_alloc _ _)).drew | go_keep)
              ((first
                | (go_at_call 8; refine (HEA.out _ (by first | exact HW.out.drew | exact (below_next HW.out (below_alloc _ _)).drew)).mono ?_; rintro r w8 ⟨ya, yc, rfl, hG8, hb8⟩; have BB1 : Hid (Below W7.heap.size W7 w8) := hide (by first | exact below_next HW.out.drew hb8 | exact below_next (below_next HW.out (below_alloc _ _)).drew hb8); have GY := hide hG8; (first | (have X8 : Box w8 wr.heap.size (.int .i64 0) (.slice none 0 0) := (Box.new wr (.int .i64 0) (.slice none 0 0) 31).below ((Below.refl _ _).drew.trans hb8); have HX8 := hide X8; obtain ⟨⟨m0, m1⟩, m2, m3⟩ := X8) | skip); clear hG8 hb8)))
            · go_wp2_with fail
              go_meet
              case rel => exact ⟨w8.heap.size, ya, yc, rfl, hide (Box.new w8 _ _ _), hide (GY.out.rd.below (below_alloc _ _)), hide (below_next BB1.out (below_alloc _ _))⟩
            · go_wp2_with fail
              go_meet
              case rel => exact ⟨wr.heap.size, ya, yc, rfl, hide (box_two HX8.out _ _), hide ((GY.out.kept (Kept.two w8 wr.heap.size 0 1 _ _) (fun x h1 _ h2 => by simp at h1; omega)).rd), hide ((BB1.out.setCell (p := ⟨wr.heap.size, 0, none⟩) HW.out.size _).setCell (p := ⟨wr.heap.size, 1, none⟩) HW.out.size _)⟩
          case rest =>
            obtain ⟨b9, ya, yc, rfl, X9, RY, B9⟩ := hcut
            clear HEA f0 f1 f2 f3 t1 y0 HW
            obtain ⟨⟨f0, f1, f2, f3⟩, t1, y0⟩ := KL.out _ B9.out
            have HIB := hide (fun u => implIsBelow_any (str y.path) (str e.path) u (by rw [str_size]; omega))
            rw [str_data, str_data, HBE.out] at HIB
            go_upto_region 13 with fail
            go_cut [10] from 42 to 114 (fun v10 wx => v10 = .bool (belowB y.path e.path) ∧ Hid (Below wc.heap.size wc wx))
            case first =>
              go_region_held3 (fun w' => (w'.cell? ⟨b4, 0, none⟩ = some (.string (str e.path)) ∧ w'.cell? ⟨b4, 1, none⟩ = some (.int .i64 e.kind) ∧ w'.cell? ⟨b4, 2, none⟩ = some (.int .i64 e.size) ∧ w'.cell? ⟨b4, 3, none⟩ = some (.slice x e.chunks.length c)) ∧ w'.cell? ⟨b5, 1, none⟩ = some (.slice la L.length lc) ∧ w'.cell? ⟨bl, ol + k * 4, none⟩ = some (.string (str y.path))) (first | exact KL.out _ (below_next B9.out BB2.out) | go_keep)
                ((first
                  | (go_at_call 10; refine (HIB.out _).mono ?_; rintro r w9 ⟨rfl, hb9⟩; have BB2 := hide ((Below.refl wc.heap.size wc).drew.trans hb9); clear hb9)))
              all_goals (go_wp2_with fail; go_meet)
              case rel => exact ⟨rfl, BB2⟩
            case rest =>
              obtain ⟨rfl, B10⟩ := hcut
              have X10 := hide (X9.out.below B10.out)
              have RY10 := hide (RY.out.below B10.out)
              have BW10 := hide (below_next B9.out B10.out)
              clear X9 RY HIB HBE f0 f1 f2 f3 t1 y0
              obtain ⟨⟨f0, f1, f2, f3⟩, t1, y0⟩ := KL.out _ BW10.out
              generalize hbb : belowB y.path e.path = bb at *
              have HBB := hide hbb
              clear hbb
              generalize hkk : keepE e y = kk at *
              have HKK := hide hkk
              clear hkk
              go_upto_region 14 with fail
              go_cut [11] from 42 to 114 (fun v11 wx => v11 = .bool kk ∧ Hid (Below wc.heap.size wc wx))
              case first =>
                have HKV := hide (show kk = (!(decide (y.path = e.path)) && (dirK e.kind || !bb)) by rw [← HKK.out, ← HBB.out]; rfl)
                by_cases hp : y.path = e.path
                · have hs0 := str_yes hp
                  have hkf : kk = false := by rw [HKV.out]; simp [hp]
                  subst hkf
                  clear hp
                  go_quiet (fail)
                  go_wp2_with fail
                  go_meet
                  case rel => exact ⟨rfl, hide (below_dn (Below.refl _ _) _)⟩
                · have hs0 := str_no hp
                  cases bb with
                  | false =>
                    have hkf : kk = true := by rw [HKV.out]; simp [hp]
                    subst hkf
                    clear hp
                    go_quiet (fail)
                    go_wp2_with fail
                    go_meet
                    case rel => exact ⟨rfl, hide (below_dn (Below.refl _ _) _)⟩
                  | true =>
                    by_cases hk2 : e.kind = 2
                    · have hkf : kk = true := by rw [HKV.out]; simp [hp, dirK, hk2]
                      have hb2 : (e.kind == 2) = true := by simp [hk2]
                      subst hkf
                      clear hp hk2
                      go_quiet (fail)
                      go_wp2_with fail
                      go_meet
                      case rel => exact ⟨rfl, hide (below_dn (Below.refl _ _) _)⟩
                    · have hb2 : (e.kind == 2) = false := by simp [hk2]
                      by_cases hk4 : e.kind = 4
                      · have hkf : kk = true := by rw [HKV.out]; simp [hp, dirK, hk4]
                        have hb4 : (e.kind == 4) = true := by simp [hk4]
                        subst hkf
                        clear hp hk2 hk4
                        go_quiet (fail)
                        go_wp2_with fail
                        go_meet
                        case rel => exact ⟨rfl, hide (below_dn (Below.refl _ _) _)⟩
                      · have hkf : kk = false := by rw [HKV.out]; simp [hp, dirK, hk4, hk2]
                        have hb4 : (e.kind == 4) = false := by simp [hk4]
                        subst hkf
                        clear hp hk2 hk4
                        go_quiet (fail)
                        go_wp2_with fail
                        go_meet
                        case rel => exact ⟨rfl, hide (below_dn (Below.refl _ _) _)⟩
              case rest =>
                obtain ⟨rfl, B11⟩ := hcut
                have X11 := hide (X10.out.below B11.out)
                have RY11 := hide (RY10.out.below B11.out)
                have BW11 := hide (below_next BW10.out B11.out)
                clear X10 RY10 BW10 f0 f1 f2 f3 t1 y0
                obtain ⟨⟨f0, f1, f2, f3⟩, t1, y0⟩ := KL.out _ BW11.out
                have hne : Nonempty (InW (fun x => Below wc.heap.size wc x)) := ⟨⟨wc, Below.refl _ _⟩⟩
                go_upto_region 15 with fail
                cases kk with
                | true =>
                  obtain ⟨hc1, hc2⟩ := HKE.out rfl
                  rw [hc1, hc2] at X11
                  rw [hc2] at RY11
                  clear HKE HKN hc1 hc2
                  have m0 : ∀ u : InW (fun x => Below wc.heap.size wc x), u.val.cell? ⟨b9, 0, none⟩ = some (.int .i64 0) := fun u => (X11.out.below u.ok).1.1
                  have m1 : ∀ u : InW (fun x => Below wc.heap.size wc x), u.val.cell? ⟨b9, 1, none⟩ = some (.slice ya 1 yc) := fun u => (X11.out.below u.ok).1.2
                  have RS := hide ((RL7.out.below BW11.out).one HY.out)
                  have C1 : Hid (∀ (cc : Nat) (u : InW (fun x => Below wc.heap.size wc x)), Calls Tryz.prog 11 #[.slice ya 1 yc, .slice (some ⟨bl, ol + k * 4, none⟩) 1 cc] u.val fun e w' => e = .returned (.bool true) ∧ ∃ x : InW (fun x => Below wc.heap.size wc x), w' = x.val) := hide (fun cc u => (implSameLayers_any ya _ yc cc 1 1 [y] [y] u.val (RY11.out.below u.ok) (RS.out.below u.ok) rfl rfl (by simp) (by simp) (fun z hz => by simp at hz; subst hz; exact hysm) (fun z hz => by simp at hz; subst hz; exact hysm)).mono (fun e w' ⟨he, hb⟩ => ⟨by rw [he]; simp, ⟨w', below_next u.ok hb⟩, rfl⟩))
                  have hk2 : (k : Int) ≤ (k : Int) + 1 := by omega
                  have hk3 : (k : Int) + 1 ≤ (lcv : Int) := by omega
                  cases bb with
                  | true =>
                    refine wp_region_inv (Inv := (fun x => Below wc.heap.size wc x)) (by kernel_rfl) (by kernel_rfl) (Below.refl _ _).drew ?_
                    repeat (first | go_big_quiet_step ((go_at_call 11; exact C1.out _ _)) | quiet_step (fail))
                    refine wpQuiet_nil ?_
                    intro _ hw'
                    obtain ⟨u, hw''⟩ := hw'
                    subst hw''
                    have B12 := hide (below_next BW11.out u.ok)
                    go_wp2_with fail
                    go_roundw
                    case rel => exact ⟨k + 1, by omega, by go_num, B12⟩
                    case measure => simp [intOf]; omega
                  | false =>
                    refine wp_region_inv (Inv := (fun x => Below wc.heap.size wc x)) (by kernel_rfl) (by kernel_rfl) (Below.refl _ _).drew ?_
                    repeat (first | go_big_quiet_step ((go_at_call 11; exact C1.out _ _)) | quiet_step (fail))
                    refine wpQuiet_nil ?_
                    intro _ hw'
                    obtain ⟨u, hw''⟩ := hw'
                    subst hw''
                    have B12 := hide (below_next BW11.out u.ok)
                    go_wp2_with fail
                    go_roundw
                    case rel => exact ⟨k + 1, by omega, by go_num, B12⟩
                    case measure => simp [intOf]; omega
                | false =>
                  cases bb with
                  | true =>
                    have hc1 := HKN.out rfl rfl
                    rw [hc1] at X11
                    clear HKE HKN hc1
                    have m0 : ∀ u : InW (fun x => Below wc.heap.size wc x), u.val.cell? ⟨b9, 0, none⟩ = some (.int .i64 4) := fun u => (X11.out.below u.ok).1.1
                    refine wp_region_inv (Inv := (fun x => Below wc.heap.size wc x)) (by kernel_rfl) (by kernel_rfl) (Below.refl _ _).drew ?_
                    repeat (first | go_big_quiet_step (fail) | quiet_step (fail))
                    refine wpQuiet_nil ?_
                    intro _ hw'
                    obtain ⟨u, hw''⟩ := hw'
                    subst hw''
                    have B12 := hide (below_next BW11.out u.ok)
                    go_wp2_with fail
                    go_roundw
                    case rel => exact ⟨k + 1, by omega, by go_num, B12⟩
                    case measure => simp [intOf]; omega
                  | false =>
                    refine wp_region_inv (Inv := (fun x => Below wc.heap.size wc x)) (by kernel_rfl) (by kernel_rfl) (Below.refl _ _).drew ?_
                    repeat (first | go_big_quiet_step (fail) | quiet_step (fail))
                    refine wpQuiet_nil ?_
                    intro _ hw'
                    obtain ⟨u, hw''⟩ := hw'
                    subst hw''
                    have B12 := hide (below_next BW11.out u.ok)
                    go_wp2_with fail
                    go_roundw
                    case rel => exact ⟨k + 1, by omega, by go_num, B12⟩
                    case measure => simp [intOf]; omega
        · have hk1 : ¬ (k : Int) < (es.length : Int) := by omega
          have HLF := hide (right_P.2 HRL.out)
          have HDF := hide (right_P.2 HRD.out)
          have HDN := hide (find_no HRD.out HFP.out HGone.out)
          have HSD := hide (right_small HRD.out)
          have hD12 := HRD.out.len
          have K8 : Hid (∀ w' : World, Below W7.heap.size W7 w' → Four w' b4 (.string (str e.path)) (.int .i64 e.kind) (.int .i64 e.size) (.slice x e.chunks.length c) ∧ Box w' b5 (.int .i64 0) (.slice la L.length lc) ∧ Box w' b6 (.int .i64 0) (.slice xa 1 xc) ∧ Box w' b7 (.int .i64 0) (.slice da D.length dc) ∧ RdE w' la L ∧ RdE w' xa [e] ∧ RdE w' da D ∧ Reads .i64 w' x e.chunks) := hide (fun w' hb' => ⟨F7.out.below hb', X7.out.below hb', Y7.out.below hb', Z7.out.below hb', RP7.out.below hb', RE7.out.below hb', RD7.out.below hb', RX7.out.below hb'⟩)
          clear X7 Y7 Z7 RP7 RE7 RD7 F7 RL7
          obtain ⟨-, ⟨⟨t0, t1⟩, t2, t3⟩, -, -, hrl, -⟩ := K8.out _ HW.out
          have HR1 := hide hrl
          clear hrl
          go_wp2_with fail
          refine (implLayerFault_any la lc L.length L _ HR1.out rfl (by omega) HSL.out).mono ?_
          rintro r w8 ⟨rfl, hb8⟩
          rw [HLF.out]
          have B8 := hide (below_next HW.out hb8)
          clear hb8 HR1 t0 t1 t2 t3
          obtain ⟨⟨f0, f1, f2, f3⟩, -, ⟨⟨s0, s1⟩, s2, s3⟩, -, -, hre, -, hrx⟩ := K8.out _ B8.out
          have RN := hide (rd_four (Four.new w8 (.string (str e.path)) (.int .i64 e.kind) (.int .i64 e.size) (.slice x e.chunks.length c) 27) (hrx.below (below_alloc _ _)))
          have RM := hide (hre.below (below_alloc w8 (.cells #[.string (str e.path), .int .i64 e.kind, .int .i64 e.size, .slice x e.chunks.length c] 27)))
          have B9 := hide (below_next B8.out (below_alloc w8 (.cells #[.string (str e.path), .int .i64 e.kind, .int .i64 e.size, .slice x e.chunks.length c] 27)))
          clear hre hrx
          go_wp2_with fail
          generalize w8.alloc (.cells #[.string (str e.path), .int .i64 e.kind, .int .i64 e.size, .slice x e.chunks.length c] 27) = W9 at *
          refine (implSameLayers_any xa _ xc 1 1 1 [e] [e] _ RM.out RN.out rfl rfl (by simp) (by simp) (fun z hz => by simp at hz; subst hz; exact ⟨by omega, by omega⟩) (fun z hz => by simp at hz; subst hz; exact ⟨by omega, by omega⟩)).mono ?_
          rintro r w10 ⟨rfl, hb10⟩
          simp only [decide_true]
          have B10 := hide (below_next B9.out hb10)
          clear hb10 RM RN f0 f1 f2 f3 s0 s1 s2 s3
          obtain ⟨-, -, -, ⟨⟨q0, q1⟩, q2, q3⟩, -, -, hrd, -⟩ := K8.out _ B10.out
          have HR2 := hide hrd
          clear hrd
          go_wp2_with fail
          refine (implLayerFault_any da dc D.length D _ HR2.out rfl (by omega) HSD.out).mono ?_
          rintro r w11 ⟨rfl, hb11⟩
          rw [HDF.out]
          have B11 := hide (below_next B10.out hb11)
          clear hb11 HR2 q0 q1 q2 q3
          obtain ⟨⟨f0, f1, f2, f3⟩, -, -, ⟨⟨q0, q1⟩, q2, q3⟩, -, -, hrd, -⟩ := K8.out _ B11.out
          have HR2 := hide hrd
          clear hrd
          go_wp2_with fail
          refine (implEntryAt_any da dc D.length D e.path _ HR2.out rfl (by omega) HSD.out hpl).mono ?_
          rw [HDN.out.1, HDN.out.2]
          rintro r w12 ⟨na, nc, rfl, -, hb12⟩
          have hfd1 : ∀ (a : Option Addr) (c : Nat) (w : World), (Instr.field 31 (.agg #[.int .i64 4, .slice a 0 c]) 0).run Tryz.prog w = .ok (.int .i64 4) w := fun _ _ _ => by kernel_rfl
          have B12 := hide (below_next B11.out hb12)
          clear hb12 HR2 q0 q1 q2 q3 f0 f1 f2 f3
          obtain ⟨-, ⟨⟨t0, t1⟩, t2, t3⟩, -, -, hrl, -⟩ := K8.out _ B12.out
          have HR1 := hide hrl
          clear hrl
          go_wp2_with fail
          refine (implChunksIn_any la lc L.length L _ HR1.out rfl (by omega) HSL.out).mono ?_
          rintro r w13 ⟨ca, cc, rfl, -, hb13⟩
          have hfd2 : ∀ (q : Int) (a : Option Addr) (n c : Nat) (w : World), (Instr.field 38 (.agg #[.int .i64 q, .slice a n c]) 1).run Tryz.prog w = .ok (.slice a n c) w := fun _ _ _ _ _ => by kernel_rfl
          have B13 := hide (below_next B12.out hb13)
          clear hb13 HR1 t0 t1 t2 t3
          obtain ⟨⟨f0, f1, f2, f3⟩, -, -, -, -, -, -, hrx⟩ := K8.out _ B13.out
          have HRX := hide hrx
          clear hrx
          have hge : (0 : Int) ≤ ((chunksListP L).length : Int) := by omega
          go_wp2_with fail
          refine (implEntryFault_any e x c e.chunks.length _ HRX.out rfl (by omega) (by omega)).mono ?_
          rintro r w14 ⟨rfl, hb14⟩
          rw [HEF.out]
          have B14 := hide (below_next B7.out (below_next B13.out hb14))
          clear hb14
          go_wp2_with fail
          go_ret
          exact ⟨rfl, B14.out⟩
    · have HSP : Hid (∀ u, RdE u lv es → Reads .i64 u x e.chunks → Calls Tryz.prog 7 #[.slice lv es.length lcv, .agg #[.string (str e.path), .int .i64 e.kind, .int .i64 e.size, .slice x e.chunks.length c]] u (ResE (putCodeP es e) (putList es e) u)) := hide (fun u h1 h2 => by
        rw [good_put HGd.out]
        exact specPutEntry_any lv lcv es.length es e x e.chunks.length c u h1 rfl (by omega) HSm.out rfl h2 hpl (by omega))
      have hne : (putCodeP es e != 0) = true := by simp; exact hc
      clear hc
      generalize putCodeP es e = F at *
      generalize putListP es e = PL at *
      generalize putList es e = PM at *
      go_wp2_with fail
      generalize w3.alloc (.cells #[.int .i64 F, .slice la PL.length lc] 31) = W5 at *
      generalize w3.heap.size = b5 at *
      obtain ⟨⟨t0, t1⟩, t2, t3⟩ := X5.out
      have hFF : (F == F) = true := by simp
      have hfd : ∀ (a : Option Addr) (c : Nat) (w : World), (Instr.field 31 (.agg #[.int .i64 F, .slice a PM.length c]) 0).run Tryz.prog w = .ok (.int .i64 F) w := fun _ _ _ => by kernel_rfl
      have KC : Hid (∀ w' : World, Below W5.heap.size W5 w' → (w'.cell? ⟨b4, 0, none⟩ = some (.string (str e.path)) ∧ w'.cell? ⟨b4, 1, none⟩ = some (.int .i64 e.kind) ∧ w'.cell? ⟨b4, 2, none⟩ = some (.int .i64 e.size) ∧ w'.cell? ⟨b4, 3, none⟩ = some (.slice x e.chunks.length c)) ∧ w'.cell? ⟨b5, 0, none⟩ = some (.int .i64 F)) := hide (fun w' hb' => ⟨F5.out.below hb', (X5.out.below hb').1.1⟩)
      obtain ⟨⟨f0, f1, f2, f3⟩, -⟩ := KC.out _ (Below.refl _ _)
      go_wp2_with fail
      go_region_held3 (fun w' => (w'.cell? ⟨b4, 0, none⟩ = some (.string (str e.path)) ∧ w'.cell? ⟨b4, 1, none⟩ = some (.int .i64 e.kind) ∧ w'.cell? ⟨b4, 2, none⟩ = some (.int .i64 e.size) ∧ w'.cell? ⟨b4, 3, none⟩ = some (.slice x e.chunks.length c)) ∧ w'.cell? ⟨b5, 0, none⟩ = some (.int .i64 F)) (first | exact KC.out _ BB6.out | go_keep)
        ((first
          | (go_at_call 7; refine (HSP.out _ (RL5.out.below (Below.refl _ _).drew) (RX5.out.below (Below.refl _ _).drew)).mono ?_; rintro r w6 ⟨av6, cv6, rfl, -, hb6⟩; have BB6 := hide ((Below.refl W5.heap.size W5).drew.trans hb6); clear hb6)))
      go_wp2_with fail
      go_ret
      exact ⟨rfl, below_next B5.out BB6.out⟩

set_option maxRecDepth 100000 in
theorem lifted (os : Os) (started : os.Started) (H : Type) (enc : TypeId × Value → H) :
    ReturnsInHanded {} Tryz.checked os 3 .any (Rows.fnLayersSpec.pre6 enc Tryz.prog Tryz.f3 Rows.fnLayersRow.domain false) (Rows.fnLayersSpec.post enc Tryz.prog Tryz.f3 false true false false) := by
  refine returnsInHanded_of_change (C := Tryz.checked) own started (by kernel_rfl) Tryz.func3
    (ChangeSpec.witness6 (enc := enc) (C := Tryz.checked) false ⟨#[], #[.slice none 0 0], []⟩ 8 (by kernel_rfl) (by kernel_rfl) (by kernel_rfl) (by kernel_rfl)) ?_
  intro W base args ds gs before hval0 hW hcnd _
  have hval : ∀ (j : Nat) t v, Tryz.f3.params[j]? = some t → args[j]? = some v → Value.okWide Tryz.prog W .any base t v := hval0
  have hW' := hW
  obtain ⟨p, q, hA0, hV, rfl, hfz, hnd⟩ := hW
  have hA : DataW.TrodAll enc Tryz.prog W 0 (fun _ => true) true Tryz.f3.params.toList args.toList ds p := hA0
  rw [Tryz.params3] at hA hval
  obtain ⟨v0, vs0, d0, ds0, p0, q0, hargs, rfl, rfl, h0, r0⟩ := trodAll_cons hA
  obtain ⟨rfl, rfl, rfl⟩ := trodAll_nil r0
  obtain rfl : args = #[v0] := by cases args; simp_all
  obtain ⟨rfl, rfl⟩ := trodVars_none hV
  obtain ⟨a0, len0, cap0, rfl⟩ := okWide_slice Tryz.underlying22 (hval 0 22 v0 rfl rfl)
  have k0 := h0
  have lt0 : ∀ x ∈ p0, x.block < W.heap.size := by obtain ⟨m, hm⟩ := k0; exact DataW.trod_lt m _ _ _ hm
  obtain ⟨zs, hlen, hread, hu, hmax⟩ : ∃ zs : List Int, zs.length = len0 ∧ Reads .u8 W a0 zs ∧ U8 zs ∧ zs.length ≤ maxLen := by
    obtain ⟨fuel, hf⟩ := h0
    rcases open_ints Tryz.underlying22 Tryz.underlying5 (by kernel_rfl) hf with ⟨hcs, _⟩ | ⟨x, l, c, zs, hcs, _, hl, hm, hz, _, hcell, hwz⟩
    · simp [Value.cells] at hcs
      obtain ⟨rfl, rfl, rfl⟩ := hcs
      exact ⟨[], rfl, fun h => absurd rfl h, fun z hz => by simp at hz, Nat.zero_le _⟩
    · simp [Value.cells] at hcs
      obtain ⟨rfl, rfl, rfl⟩ := hcs
      exact reads_of_row (by simpa using hz) hl hm hcell hwz
  subst hlen
  clear hA0 hval0
  refine (walk a0 cap0 zs W hread hu hmax).mono fun e W' ⟨he, bel⟩ => ?_
  subst he
  exact ⟨_, rfl, _, _, _, [], _, [], hW', trodAll_mk1 (shut_bool Tryz.underlying4 _), (trodAll_cons_mk (Below.trod laidOut (by kernel_rfl) (of_decide_eq_true (by kernel_rfl)) k0 bel lt0) trodAll_mk0), rfl, bel.frame _, fun h => by cases h⟩

theorem over : Rows.fnLayersRow.holds Tryz.pinned (OpenSpec.ofChange Rows.fnLayersSpec) :=
  OpenClaim.holds_of_wide 3 Tryz.f3 rfl rfl rfl rfl rfl rfl rfl ⟨rfl, rfl, rfl, rfl, rfl⟩ rfl rfl rfl rfl rfl (by kernel_rfl) Tryz.func3 (by kernel_rfl)
    (of_decide_eq_true (by kernel_rfl)) (by unfold Func.isWrapper; first | (rw [if_pos (by decide +kernel)]; kernel_rfl) | (rw [if_neg (by decide +kernel)]; exact ⟨rfl, rfl⟩))
    (fun os started H enc _ => lifted os started H enc)

end Go.Proofs.YtbdbhdgfifojoaaGreat.fnLayers
namespace Go.Proofs.YtbdbhdgfifojoaaGreat
theorem fnLayers_holds : Rows.FnLayersSaid := fnLayers.over
#print axioms fnLayers_holds
end Go.Proofs.YtbdbhdgfifojoaaGreat
