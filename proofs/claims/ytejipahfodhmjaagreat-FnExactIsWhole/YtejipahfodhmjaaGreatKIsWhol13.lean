/-
  Texts put together: LazJ LyrT ChunksIn.
-/
import Derived.Test.YtejipahfodhmjaaGreatKIsWhol11
import Derived.Test.YtejipahfodhmjaaGreatKIsWhol12
import Derived.Test.YtejipahfodhmjaaGreatKIsWhol9
import Derived.Test.YtejipahfodhmjaaGreatKIsWhol6
import Derived.Test.YtejipahfodhmjaaGreatKIsWhol8
import Derived.Deep.SlicePairs
import Derived.ProofKit
import Derived.ChangeOld
namespace Go.Proofs.YtejipahfodhmjaaGreat
open Go.RowKit Go.Maps
set_option linter.unusedVariables false
attribute [local go_sem ↓] Go.wp_at_zero Go.wp_at_succ

theorem rights_good {ls : List (List En)} (h : ∀ es ∈ ls, Right es) : ∀ es ∈ ls, layFault es = layFaultP es := fun es he => by
  rw [right_P.2 (h es he), right_E.2 (h es he)]
theorem all_path_len {ls : List (List En)} (hR : ∀ es ∈ ls, Right es) (hs : SmallL ls) (h4 : ls.length ≤ 4) (e : En) (he : e ∈ allE ls) : e.path.length ≤ 1048576 := by
  have hF := rights_fit hR
  have hA := all_fit hF
  have hf := rise_find hA.fit.rise he
  rw [all_find hF h4 (hA.fit.path he)] at hf
  unfold sawE at hf
  cases hk : seenL ls e.path with
  | none => rw [hk] at hf; cases hf
  | some k =>
    rw [hk] at hf
    cases hs2 : seeL ls k e.path with
    | none => simp [hs2] at hf
    | some f =>
      obtain ⟨es, h1, h2, h3⟩ := seeL_mem hs2
      have := ((hs es h1).2 f h2).1
      rwa [h3] at this
set_option maxRecDepth 100000 in
set_option maxHeartbeats 800000 in
theorem l11Asked_ok (a : Option Addr) (c m : Nat) (ls : List (List En)) (b : Option Addr) (d n : Nat) (D : Nat → Int) (P : Nat → List Int) (w : World) (h : RdL w a ls) (hm : m = ls.length) (hl : ls.length ≤ 1048576) (hs : SmallL ls) (hg : ∀ es ∈ ls, layFault es = layFaultP es) (hC : RdC w b D P n) (hn : n ≤ 1048576) (hP : ∀ i, i < n → U8 (P i) ∧ (P i).length ≤ 1048576) :
    Calls Tryz.prog 58 #[.slice a m c, .slice b n d] w fun e w' => e = .returned (.int .i64 (lacF ls D P n)) ∧ Below w.heap.size w w' := by
  subst hm
  have HLF := hide (specLayersFault_any a c ls.length ls w h rfl hl hs hg)
  have HCF := hide (fun (u : World) (hu : Below w.heap.size w u) => specFault_any b d n D P u (hC.below hu) hn hP)
  unfold lacF
  clear h hC hP hs hg
  by_cases hz : layersP ls = 0
  · rw [hz] at HLF
    rw [if_pos hz]
    generalize fault D P n = F at *
    clear hz
    go_enter Tryz.func58, Tryz.ntmps58
    go_wp2_with fail
    refine HLF.out.mono ?_
    rintro r w1 ⟨rfl, hb1⟩
    have B1 := hide hb1
    clear hb1
    go_wp2_with fail
    refine (HCF.out _ B1.out).mono ?_
    rintro r w2 ⟨rfl, hb2⟩
    have B2 := hide (below_next B1.out hb2)
    clear hb2
    go_wp2_with fail
    go_ret
    exact ⟨rfl, B2.out⟩
  · rw [if_neg hz]
    generalize layersP ls = F at *
    have hz2 : (F != 0) = true := by simp; exact hz
    clear hz
    go_enter Tryz.func58, Tryz.ntmps58
    go_wp2_with fail
    refine HLF.out.mono ?_
    rintro r w1 ⟨rfl, hb1⟩
    have B1 := hide hb1
    clear hb1
    go_wp2_with fail
    go_ret
    exact ⟨rfl, B1.out⟩
set_option maxRecDepth 100000 in
set_option maxHeartbeats 800000 in
theorem l11Asked_ne (a : Option Addr) (c m : Nat) (ls : List (List En)) (b : Option Addr) (d n : Nat) (D : Nat → Int) (P : Nat → List Int) (w : World) (h : RdL w a ls) (hm : m = ls.length) (hl : ls.length ≤ 1048576) (hs : SmallL ls) (hC : RdC w b D P n) (hn : n ≤ 1048576) (hP : ∀ i, i < n → U8 (P i) ∧ (P i).length ≤ 1048576) (hz : lacF ls D P n ≠ 0) :
    Calls Tryz.prog 58 #[.slice a m c, .slice b n d] w fun e w' => (∃ q : Int, e = .returned (.int .i64 q) ∧ q ≠ 0) ∧ Below w.heap.size w w' := by
  by_cases hL : layersP ls = 0
  · obtain ⟨h4, hRs⟩ := layersP_zero.1 hL
    refine (l11Asked_ok a c m ls b d n D P w h hm hl hs (rights_good hRs) hC hn hP).mono ?_
    rintro e w' ⟨rfl, hb⟩
    exact ⟨⟨_, rfl, hz⟩, hb⟩
  · subst hm
    have HLF := hide (specLayersFault_ne a c ls.length ls w h rfl hl hs hL)
    clear h hC hP hs hL hz
    go_enter Tryz.func58, Tryz.ntmps58
    go_wp2_with fail
    refine HLF.out.mono ?_
    rintro r w1 ⟨⟨q, rfl, hq⟩, hb1⟩
    have B1 := hide hb1
    have HQ := hide hq
    have hz2 : (q != 0) = true := by simp; exact hq
    clear hb1 hq
    go_wp2_with fail
    go_ret
    exact ⟨⟨q, rfl, HQ.out⟩, B1.out⟩
set_option maxRecDepth 100000 in
set_option maxHeartbeats 6400000 in
theorem l11Away_any (a : Option Addr) (c m : Nat) (ls : List (List En)) (b : Option Addr) (d n : Nat) (D : Nat → Int) (P : Nat → List Int) (w : World) (h : RdL w a ls) (hm : m = ls.length) (hs : SmallL ls) (hC : RdC w b D P n) (hn : n ≤ 1048576) (hz : layersP ls = 0) :
    Calls Tryz.prog 59 #[.slice a m c, .slice b n d] w fun e w' => ∃ v, e = .returned v ∧ w'.ownsRow w.heap.size 2 1 v (awayE D n (allE ls)).length ((awayE D n (allE ls)).map (Value.int .i64)) ∧ Below w.heap.size w w' := by
  subst hm
  obtain ⟨i1, ki, kz0, kz1, kz2⟩ := info_parts Tryz.infoI64
  obtain ⟨h4, hRs⟩ := layersP_zero.1 hz
  have hF := all_fit (rights_fit hRs)
  have hAl : (allE ls).length ≤ 48 := by
    have h1 := all_len hRs ls.length (Nat.le_refl _)
    rw [List.take_length] at h1
    omega
  have HFit := hide hF
  have HR := hide h
  have HC := hide hC
  have HRr := hide hRs
  have HKC := hide (fun e (he : e ∈ allE ls) => entFault_chunks (hF.fit.ent e he))
  have B0 := hide (below_alloc w (.cells #[] 2))
  have O0 := hide (show (w.alloc (.cells #[] 2)).ownsRow w.heap.size 2 1 (.slice (some ⟨w.heap.size, 0, none⟩) 0 0) 0 [] from World.ownsRow_made w #[] 0 (Nat.le_refl _) (Nat.zero_le _) rfl)
  have HPO := hide (specPathsOver_any a c ls.length ls _ (h.below B0.out) rfl (by omega) hs (rights_good hRs))
  have HLY := hide (fun (u : World) (hu : Below w.heap.size w u) (p : Bs) (hp : faultP p = 0) (hpl : p.length ≤ 1048576) (e : En) (he : findE (allE ls) p = some e) => l8Look_yes a c ls.length ls p u (h.below hu) rfl h4 hRs hp hpl e he)
  rw [pthL, if_pos hz, hz] at HPO
  have HEL := hide (fun e (he : e ∈ allE ls) => all_path_len hRs hs h4 e he)
  clear h hC hs hRs hF hz
  generalize allE ls = T at *
  go_enter Tryz.func59, Tryz.ntmps59
  go_wp2_with fail
  refine HPO.out.mono ?_
  rintro r w1 ⟨pa, pc, rfl, hO1, hb1⟩
  have RN := hide hO1
  unfold OwnS at RN
  have B1 := hide (below_next B0.out hb1)
  have O1 := hide (ownsRow_below O0.out hb1)
  have hln : (T.map En.path).length = T.length := by rw [List.length_map]
  rw [hln] at RN ⊢
  have hfd : ∀ u : World, (Instr.field 52 (.agg #[.int .i64 0, .slice pa T.length pc]) 1).run Tryz.prog u = .ok (.slice pa T.length pc) u := fun _ => by kernel_rfl
  have RN2 := hide (ownsRow_mono RN.out (show w.heap.size ≤ (w.alloc (.cells #[] 2)).heap.size from B0.out.size))
  clear hO1 hb1 hln HPO RN
  go_wp2_with fail
  go_loopw [5, 7, 8, 9, 10, 11] (fun v i _ _ _ _ wr => ∃ k : Nat, k ≤ T.length ∧ i = .int .i64 k ∧ Hid (wr.ownsRow w.heap.size 2 1 v (awayE D n (T.take k)).length ((awayE D n (T.take k)).map (Value.int .i64))) ∧ Hid (Below w.heap.size w wr) ∧ Hid (wr.ownsRow w.heap.size 9 1 (.slice pa T.length pc) T.length ((T.map En.path).map vS))) (fun _ i _ _ _ _ _ => T.length - (intOf i).toNat)
  case atStart => exact ⟨0, Nat.zero_le _, rfl, hide (by simpa [awayE] using O1.out), B1, RN2⟩
  case round =>
    clear RN2 O1 B1
    obtain ⟨k, hk, rfl, HO, HW, HN⟩ := hrel
    obtain ⟨lv, lc, hv⟩ := ownsRow_shape HO.out
    subst hv
    by_cases hlt : k < T.length
    · have he : T[k]? = some (T[k]'hlt) := List.getElem?_eq_getElem hlt
      generalize T[k]'hlt = e at he
      have hem := List.mem_of_getElem? he
      have hent := HFit.out.fit.ent e hem
      have hpe := HFit.out.fit.path hem
      have hpl := HEL.out e hem
      have h3c := HKC.out e hem
      have HTK := hide (awayE_take (D := D) (n := n) he)
      have hal := awayE_len (D := D) (n := n) (fun e he => HKC.out e he) k hk
      obtain ⟨bn, hpa, hbn, hcn⟩ : ∃ bn, pa = some ⟨bn, 0, none⟩ ∧ bn < wr.heap.size ∧ wr.cell? ⟨bn, k, none⟩ = some (.string (str e.path)) := by
        rcases HN.out.2 with ⟨h', h0⟩ | ⟨g, cap, cur, h', hb, hgb, hx⟩
        · omega
        · simp only [Value.slice.injEq] at h'
          obtain ⟨rfl, -, rfl⟩ := h'
          refine ⟨g, rfl, (Array.getElem?_eq_some_iff.1 hgb).1, ?_⟩
          have := HN.out.cellAt k (by omega)
          rw [this, List.getElem?_map, List.getElem?_map, he]; rfl
      subst hpa
      have HLK := hide (HLY.out wr HW.out e.path hpe hpl e (rise_find HFit.out.fit.rise hem))
      have hml := missE_len D n e
      unfold missE at HTK hml
      generalize awayE D n (T.take k) = ms at *
      generalize hzs : miss D n e.chunks e.chunks.length = zs at *
      have HZS := hide hzs
      clear hzs he hem hent hpe
      have hk0 : (0 : Int) ≤ (k : Int) := by omega
      have hk1 : (k : Int) < (T.length : Int) := by omega
      go_wp2_with fail
      refine HLK.out.mono ?_
      rintro r w2 ⟨x, cc, rfl, hown2, hb2⟩
      have A2 := hide (below_alloc w2 (.cells #[.string (str e.path), .int .i64 e.kind, .int .i64 e.size, .slice x e.chunks.length cc] 40))
      have F2 := hide (Four.new w2 (.string (str e.path)) (.int .i64 e.kind) (.int .i64 e.size) (.slice x e.chunks.length cc) 40)
      have BB2 := hide (below_next hb2 A2.out)
      have R2 := hide ((ownInts_reads hown2 rfl).below A2.out)
      have HW2 := hide (below_next HW.out BB2.out)
      have HO2 := hide (ownsRow_below HO.out BB2.out)
      have HN2 := hide (ownsRow_below HN.out BB2.out)
      have HMI := hide (l2Missing_any b d n D P x cc e.chunks _ (HC.out.below HW2.out) hn R2.out h3c)
      rw [HZS.out] at HMI
      have hs2 : w2.heap.size + 1 = (w2.alloc (.cells #[.string (str e.path), .int .i64 e.kind, .int .i64 e.size, .slice x e.chunks.length cc] 40)).heap.size := by simp
      clear hown2 hb2 HO HW HN HLK hcn BB2 R2 A2
      obtain ⟨t0, t1, t2, t3⟩ := F2.out
      go_wp2_with fail
      clear t0 t1 t2 t3 F2
      generalize w2.alloc (.cells #[.string (str e.path), .int .i64 e.kind, .int .i64 e.size, .slice x e.chunks.length cc] 40) = W2 at *
      refine HMI.out.mono ?_
      rintro r w5 ⟨v5, rfl, hg5, hb5⟩
      obtain ⟨ga, gc, hv5⟩ := ownsRow_shape hg5
      subst hv5
      have HW5 := hide (below_next HW2.out hb5)
      have HO5 := hide (ownsRow_below HO2.out hb5)
      have HN5 := hide (ownsRow_below HN2.out hb5)
      have HZ5 := hide (ownInts_reads hg5 rfl)
      have HAP5 := hide (show AprtZ ga (.slice lv ms.length lc) from fun y hy g hgv e9 => by
        have h1 := (HO2.out.lt g hgv).2
        have h2 := (hg5.lt y.block (by rw [hy]; rfl)).1
        omega)
      clear hb5 hg5 HO2 HW2 HN2 HMI hs2
      go_wp2_with fail
      go_loopw [5, 11] (fun v i wx => ∃ j : Nat, j ≤ zs.length ∧ i = .int .i64 j ∧ Hid (wx.ownsRow w.heap.size 2 1 v (putsZ ms (zs.take j)).length ((putsZ ms (zs.take j)).map (Value.int .i64))) ∧ Hid (Below w.heap.size w wx) ∧ Hid (Reads .i64 wx ga zs) ∧ Hid (AprtZ ga v) ∧ Hid (∀ x, zs ≠ [] → ga = some x → x.block < wx.heap.size) ∧ Hid (wx.ownsRow w.heap.size 9 1 (.slice (some ⟨bn, 0, none⟩) T.length pc) T.length ((T.map En.path).map vS))) (fun _ i _ => zs.length - (intOf i).toNat)
      case atStart => exact ⟨0, Nat.zero_le _, rfl, hide (by simpa [putsZ] using HO5.out), HW5, HZ5, hide (by simpa [putsZ] using HAP5.out), hide (fun x hz hx => HZ5.out.lt hz x hx), HN5⟩
      case round =>
        clear HO5 HW5 HZ5 HAP5 HN5
        obtain ⟨j, hj, rfl, HOx, HWx, HZx, HAx, HLx, HNx⟩ := hrel
        obtain ⟨tv, tc, hv⟩ := ownsRow_shape HOx.out
        subst hv
        by_cases hlt2 : j < zs.length
        · obtain ⟨bz, oz, rfl, hbz, hcz⟩ := HZx.out (by intro e; simp [e] at hlt2)
          have hc1 := hcz j hlt2
          have HAT := hide (putsZ_take (o := ms) hlt2)
          have hxl := putsZ_len ms (zs.take j)
          have htl : (zs.take j).length ≤ j := List.length_take_le _ _
          generalize zs.getD j 0 = z at *
          generalize putsZ ms (zs.take j) = ys at *
          have hszx := HWx.out.size
          have RM := hide (ownsRow_own HOx.out rfl).reads
          have HCn := hide (l2Among_any tv tc ys z wr RM.out (by omega))
          have hm1 : ys.length + 1 ≤ maxLen := by unfold maxLen; omega
          have hm2 : (ys.length + 1) * 8 ≤ 140737488355328 := by omega
          have hj0 : (0 : Int) ≤ (j : Int) := by omega
          have hj1 : (j : Int) < (zs.length : Int) := by omega
          clear hcz
          cases hcn : ys.contains z with
          | true =>
            have HST := hide (HAT.out.trans (putZ_yes hcn))
            rw [hcn] at HCn
            clear hcn
            go_wp2_with fail
            refine HCn.out.mono ?_
            rintro r w6 ⟨rfl, rfl⟩
            go_wp2_with fail
            go_roundw
            case rel => exact ⟨j + 1, by omega, by go_num, by rw [HST.out]; exact HOx, HWx, HZx, HAx, HLx, HNx⟩
            case measure => simp [intOf]; omega
          | false =>
            have HST := hide (HAT.out.trans (putZ_no hcn))
            rw [hcn] at HCn
            clear hcn
            go_wp2_with fail
            refine HCn.out.mono ?_
            rintro r w6 ⟨rfl, rfl⟩
            go_wp2_with (at_builtin; refine wpList_append_one_at rfl (.tmp 48) (.tmp 53) 31 rfl w.heap.size 2 i1 (.int .i64 0) 1 8 Tryz.underlying31 ki kz0 kz1 kz2 rfl (by decide) _ _ _ rfl HOx.out rfl rfl (by intro u hu; simp at hu; subst hu; rfl) hm1 hm2 hszx ?_; intro v' w7 hown7 hkept hat; have O7 := hide hown7; have K7 := hide hkept; have A7 := hide hat; clear hown7 hkept hat)
            go_roundw
            case rel =>
              refine ⟨j + 1, by omega, by go_num, by rw [HST.out]; exact hide (by simpa using O7.out), hide (Kept.below_own HWx.out hszx HOx.out K7.out), hide ?_, hide ?_, hide (fun x hz hx => Nat.lt_of_lt_of_le (HLx.out x hz hx) K7.out.size), hide (ownsRow_kept HNx.out K7.out (fun g hg hS => ownsRow_apart HOx.out HNx.out (by decide) hS hg))⟩
              · exact HZx.out.kept K7.out (fun hz x hx e => HAx.out x hx _ e rfl)
              · intro x hx g hg e9
                rcases A7.out with e | ⟨g2, e, hg2⟩
                · exact HAx.out x hx g (e.symm.trans hg) e9
                · rw [e] at hg
                  have := Option.some.inj hg
                  have := HLx.out x (by intro e; simp [e] at hlt2) hx
                  omega
            case measure => simp [intOf]; omega
        · have hje : zs.take j = zs := List.take_of_length_le (by omega)
          rw [hje] at HOx ⊢
          clear hje
          go_wp2_with fail
          go_roundw
          case rel => exact ⟨k + 1, by omega, by go_num, by rw [HTK.out]; exact HOx, HWx, HNx⟩
          case measure => simp [intOf]; omega
    · have hke : T.take k = T := List.take_of_length_le (by omega)
      rw [hke] at HO ⊢
      clear hke
      go_wp2_with fail
      go_ret
      exact ⟨_, rfl, HO.out, HW.out⟩
set_option maxRecDepth 100000 in
set_option maxHeartbeats 1600000 in
theorem specIsWhole_any (a : Option Addr) (c m : Nat) (ls : List (List En)) (b : Option Addr) (d n : Nat) (D : Nat → Int) (P : Nat → List Int) (w : World) (h : RdL w a ls) (hm : m = ls.length) (hl : ls.length ≤ 1048576) (hs : SmallL ls) (hC : RdC w b D P n) (hn : n ≤ 1048576) (hP : ∀ i, i < n → U8 (P i) ∧ (P i).length ≤ 1048576) :
    Calls Tryz.prog 26 #[.slice a m c, .slice b n d] w fun e w' => e = .returned (.bool (wholeB ls D P n)) ∧ Below w.heap.size w w' := by
  subst hm
  by_cases hz : lacF ls D P n = 0
  · obtain ⟨h4, hRs⟩ := layersP_zero.1 (lac_zero.1 hz).1
    have HLF := hide (l11Asked_ok a c ls.length ls b d n D P w h rfl hl hs (rights_good hRs) hC hn hP)
    have HLW := hide (fun (u : World) (hu : Below w.heap.size w u) => l11Away_any a c ls.length ls b d n D P u (h.below hu) rfl hs (hC.below hu) hn (lac_zero.1 hz).1)
    have HWB := hide (show wholeB ls D P n = decide ((awayE D n (allE ls)).length = 0) from by unfold wholeB; rw [hz]; simp)
    rw [hz] at HLF
    rw [HWB.out]
    clear h hs hC hP hz HWB hRs
    generalize awayE D n (allE ls) = zs at *
    cases zs with
    | nil =>
      go_enter Tryz.func26, Tryz.ntmps26
      go_wp2_with fail
      refine HLF.out.mono ?_
      rintro r w1 ⟨rfl, hb1⟩
      have B1 := hide hb1
      clear hb1 HLF
      go_wp2_with fail
      refine (HLW.out w1 B1.out).mono ?_
      rintro r w2 ⟨v2, rfl, hO2, hb2⟩
      obtain ⟨ga, gc, hv2⟩ := ownsRow_shape hO2
      subst hv2
      have B2 := hide (below_next B1.out hb2)
      clear hO2 hb2 HLW
      go_wp2_with fail
      go_ret
      exact ⟨rfl, B2.out⟩
    | cons z zs =>
      have hne : (((z :: zs).length : Int) == 0) = false := by simp; omega
      obtain ⟨L, hL⟩ : ∃ L, L = z :: zs := ⟨_, rfl⟩
      rw [← hL] at HLW hne ⊢
      have hd : decide (L.length = 0) = false := by rw [hL]; simp
      rw [hd]
      clear hL hd
      go_enter Tryz.func26, Tryz.ntmps26
      go_wp2_with fail
      refine HLF.out.mono ?_
      rintro r w1 ⟨rfl, hb1⟩
      have B1 := hide hb1
      clear hb1 HLF
      go_wp2_with fail
      refine (HLW.out w1 B1.out).mono ?_
      rintro r w2 ⟨v2, rfl, hO2, hb2⟩
      obtain ⟨ga, gc, hv2⟩ := ownsRow_shape hO2
      subst hv2
      have B2 := hide (below_next B1.out hb2)
      clear hO2 hb2 HLW
      go_wp2_with fail
      go_ret
      exact ⟨rfl, B2.out⟩
  · have HWB := hide (show wholeB ls D P n = false from by unfold wholeB; simp [hz])
    have HLF := hide (l11Asked_ne a c ls.length ls b d n D P w h rfl hl hs hC hn hP hz)
    rw [HWB.out]
    clear h hs hC hP hz HWB
    go_enter Tryz.func26, Tryz.ntmps26
    go_wp2_with fail
    refine HLF.out.mono ?_
    rintro r w1 ⟨⟨q, rfl, hq⟩, hb1⟩
    have B1 := hide hb1
    have hz2 : (q == 0) = false := by simpa using hq
    clear hb1 hq
    go_wp2_with fail
    go_ret
    exact ⟨rfl, B1.out⟩
end Go.Proofs.YtejipahfodhmjaaGreat

namespace Go.Proofs.YtejipahfodhmjaaGreat
open Go.ChangeShapes Go.WideShapes Go.ChangeAt Go.RowKit
set_option linter.unusedVariables false

def szL : List (List En) → Nat
  | [] => 0
  | es :: r => es.length + szE es + szL r
theorem szL_append : ∀ (a b : List (List En)), szL (a ++ b) = szL a + szL b
  | [], b => by simp [szL]
  | x :: a, b => by simp only [List.cons_append, szL, szL_append a b]; omega
theorem szL_take {ls : List (List En)} {j : Nat} {es : List En} (h : ls[j]? = some es) : szL (ls.take (j + 1)) = szL (ls.take j) + es.length + szE es := by
  rw [List.take_add_one, h]
  show szL (ls.take j ++ [es]) = _
  rw [szL_append]; simp only [szL]; omega
theorem szL_le (ls : List (List En)) (j : Nat) : szL (ls.take j) ≤ szL ls := by
  have := szL_append (ls.take j) (ls.drop j)
  rw [List.take_append_drop] at this
  omega
theorem szL_mem {ls : List (List En)} {es : List En} (h : es ∈ ls) : es.length + szE es ≤ szL ls := by
  induction ls with
  | nil => simp at h
  | cons x ls ih =>
    simp only [szL]
    rcases List.mem_cons.1 h with rfl | h
    · omega
    · have := ih h; omega
theorem szL_small {ls : List (List En)} (h : szL ls ≤ 1048576) : SmallL ls := fun es he => by
  have := szL_mem he
  exact ⟨by omega, szE_small (by omega)⟩

set_option maxRecDepth 100000 in
set_option maxHeartbeats 800000 in
theorem szEntrySS_fits (a : Option Addr) (c n : Nat) (ls : List (List En)) (left : Int) (w : World) (h : RdL w a ls) (hn : n = ls.length) (h0 : left ≤ 1048576) (hfit : (ls.length : Int) + (szL ls : Int) ≤ left) :
    Calls Tryz.prog 24 #[.slice a n c, .int .i64 left] w fun e w' => e = .returned (.int .i64 (left - ls.length - szL ls)) ∧ Below w.heap.size w w' := by
  subst hn
  have hb : ¬ (left - (ls.length : Int)) < 0 := by omega
  have HA := hide h
  clear h
  go_enter Tryz.func24, Tryz.ntmps24
  go_wp2_with fail
  go_loopw [1, 5] (fun q i wr => ∃ k : Nat, k ≤ ls.length ∧ i = .int .i64 k ∧ q = .int .i64 (left - ls.length - szL (ls.take k)) ∧ Hid (Below w.heap.size w wr)) (fun _ i _ => ls.length - (intOf i).toNat)
  case atStart => exact ⟨0, Nat.zero_le _, rfl, by simp [szL], hide (Below.refl _ _)⟩
  case round =>
    obtain ⟨k, hk, rfl, rfl, HW⟩ := hrel
    by_cases hlt : k < ls.length
    · obtain ⟨b, off, es, x, cc, rfl, hb1, he, c0, hr⟩ := (HA.out.below HW.out).at hlt
      have hst := szL_take he
      have hle := szL_le ls (k + 1)
      have HST := hide hst
      have HRD := hide hr
      have hb2 : ¬ (left - (ls.length : Int) - (szL (ls.take k) : Int) - (es.length : Int) - (szE es : Int)) < 0 := by omega
      have hft : (es.length : Int) + (szE es : Int) ≤ left - (ls.length : Int) - (szL (ls.take k) : Int) := by omega
      have hlf : left - (ls.length : Int) - (szL (ls.take k) : Int) ≤ 1048576 := by omega
      clear hst hr he hle
      go_wp2_with fail
      refine (szEntryS_fits x cc es.length es _ _ HRD.out rfl hlf hft).mono ?_
      rintro r w1 ⟨rfl, b1⟩
      have HB1 := hide b1
      clear b1
      go_wp2_with fail
      go_roundw
      case rel => exact ⟨k + 1, by omega, by go_num, by rw [HST.out]; go_num, hide (below_next HW.out HB1.out)⟩
      case measure => simp [intOf]; omega
    · have HE := hide (show ls.take k = ls from List.take_of_length_le (by omega))
      rw [HE.out]
      go_wp2_with fail
      go_ret
      exact ⟨rfl, HW.out⟩

set_option maxRecDepth 100000 in
set_option maxHeartbeats 800000 in
theorem szEntrySS_not (a : Option Addr) (c n : Nat) (ls : List (List En)) (left : Int) (w : World) (h : RdL w a ls) (hn : n = ls.length) (h00 : 0 ≤ left) (h0 : left ≤ 1048576) (hm : (ls.length : Int) ≤ 9223372036854775807) (hmE : ∀ es ∈ ls, (es.length : Int) ≤ 9223372036854775807 ∧ ∀ e ∈ es, (e.path.length : Int) ≤ 9223372036854775807 ∧ (e.chunks.length : Int) ≤ 9223372036854775807) (hfit : left < (ls.length : Int) + (szL ls : Int)) :
    Calls Tryz.prog 24 #[.slice a n c, .int .i64 left] w fun e w' => e = .returned (.int .i64 (-1)) ∧ Below w.heap.size w w' := by
  subst hn
  by_cases hsm : left < (ls.length : Int)
  · have hb : (left - (ls.length : Int)) < 0 := by omega
    clear h
    go_enter Tryz.func24, Tryz.ntmps24
    go_wp2_with fail
    go_ret
    exact ⟨rfl, Below.refl _ _⟩
  · have hb : ¬ (left - (ls.length : Int)) < 0 := by omega
    have HA := hide h
    have HM := hide hmE
    clear h hmE
    go_enter Tryz.func24, Tryz.ntmps24
    go_wp2_with fail
    go_loopw [1, 5] (fun q i wr => ∃ k : Nat, k ≤ ls.length ∧ i = .int .i64 k ∧ q = .int .i64 (left - ls.length - szL (ls.take k)) ∧ (ls.length : Int) + (szL (ls.take k) : Int) ≤ left ∧ Hid (Below w.heap.size w wr)) (fun _ i _ => ls.length - (intOf i).toNat)
    case atStart => exact ⟨0, Nat.zero_le _, rfl, by simp [szL], by simp [szL]; omega, hide (Below.refl _ _)⟩
    case round =>
      obtain ⟨k, hk, rfl, rfl, hft, HW⟩ := hrel
      have hlt : k < ls.length := by
        rcases Nat.lt_or_ge k ls.length with h1 | h1
        · exact h1
        · rw [List.take_of_length_le h1] at hft
          omega
      obtain ⟨b, off, es, x, cc, rfl, hb1, he, c0, hr⟩ := (HA.out.below HW.out).at hlt
      have hst := szL_take he
      obtain ⟨hme, hmk⟩ := HM.out es (List.mem_of_getElem? he)
      have HST := hide hst
      have HRD := hide hr
      have HMK := hide hmk
      have hlf : left - (ls.length : Int) - (szL (ls.take k) : Int) ≤ 1048576 := by omega
      have hlg : 0 ≤ left - (ls.length : Int) - (szL (ls.take k) : Int) := by omega
      clear hst hr he hmk
      by_cases hf : (es.length : Int) + (szE es : Int) ≤ left - (ls.length : Int) - (szL (ls.take k) : Int)
      · have hb2 : ¬ (left - (ls.length : Int) - (szL (ls.take k) : Int) - (es.length : Int) - (szE es : Int)) < 0 := by omega
        go_wp2_with fail
        refine (szEntryS_fits x cc es.length es _ _ HRD.out rfl hlf hf).mono ?_
        rintro r w1 ⟨rfl, b1⟩
        have HB1 := hide b1
        clear b1
        go_wp2_with fail
        go_roundw
        case rel => exact ⟨k + 1, by omega, by go_num, by rw [HST.out]; go_num, by rw [HST.out]; omega, hide (below_next HW.out HB1.out)⟩
        case measure => simp [intOf]; omega
      · go_wp2_with fail
        refine (szEntryS_not x cc es.length es _ _ HRD.out rfl hlg hlf hme HMK.out (by omega)).mono ?_
        rintro r w1 ⟨rfl, b1⟩
        have HB1 := hide b1
        clear b1
        go_wp2_with fail
        go_ret
        exact ⟨rfl, below_next HW.out HB1.out⟩

theorem infoLz : (Tryz.prog.info? 35).map (fun i => (i.zero, i.size, i.bytes)) = some (some (.slice none 0 0), 1, 24) := by kernel_rfl
def lyF (A : Nat → Option Addr) (C : Nat → Nat) (ls : List (List En)) (j : Nat) : Value := .slice (A j) (ls.getD j []).length (C j)
set_option maxRecDepth 100000 in
set_option maxHeartbeats 1600000 in
theorem toEntrySS_any (a : Option Addr) (c n : Nat) (ls : List (List En)) (w : World) (h : RdL w a ls) (hn : n = ls.length) (hl : ls.length ≤ 1048576) (hs : SmallL ls) :
    Calls Tryz.prog 27 #[.slice a n c] w fun e w' => ∃ G, e = .returned (.slice (some ⟨G, 0, none⟩) n n) ∧ RdL w' (some ⟨G, 0, none⟩) ls ∧ Below w.heap.size w w' := by
  subst hn
  have hmk := run_make_row' (P := Tryz.prog) 24 35 (.slice none 0 0) 24 Tryz.underlying24 infoLz rfl .i64 .i64 ls.length (by omega) (by omega)
  have HA := hide h
  have HS := hide hs
  clear h hs
  go_enter Tryz.func27, Tryz.ntmps27
  go_wp2
  go_loopw [4] (fun i wr => ∃ (k : Nat) (A : Nat → Option Addr) (C : Nat → Nat), k ≤ ls.length ∧ i = .int .i64 k ∧ Hid (wr.rowIs w.heap.size 35 ls.length (fun j => if j < k then lyF A C ls j else .slice none 0 0)) ∧ Hid (∀ j, j < k → ∃ B T, w.heap.size < B ∧ GE B T wr (lyF A C ls j) (ls.getD j [])) ∧ Hid (Below w.heap.size w wr)) (fun i _ => ls.length - (intOf i).toNat)
  case atStart => exact ⟨0, fun _ => none, fun _ => 0, Nat.zero_le _, rfl, hide ((World.rowIs_made w _ _ _).congr (by simp)), hide (fun j hj => absurd hj (by omega)), hide ((Below.refl _ _).alloc (Nat.le_refl _) _)⟩
  case round =>
    obtain ⟨k, A, C, hk, rfl, HR, HG, HW⟩ := hrel
    by_cases hlt : k < ls.length
    · obtain ⟨b, off, es, x, cc, rfl, hb1, he, c0, hr⟩ := (HA.out.below HW.out).at hlt
      obtain ⟨hel, hsm⟩ := HS.out es (List.mem_of_getElem? he)
      have hgd : ls.getD k [] = es := by rw [List.getD_eq_getElem?_getD, he]; rfl
      have HGD := hide hgd
      have HT := hide (toEntryS_any x cc es.length es wr hr rfl hel hsm)
      have hlw : w.heap.size < wr.heap.size := HR.out.lt
      clear he hr hsm hgd
      go_wp2_with fail
      refine HT.out.mono ?_
      rintro r w1 ⟨G, rfl, hG, hge, hb⟩
      have HR1 := hide (rowIs_kept (S := fun _ => False) HR.out (Kept.of_below hb) id)
      have hf : w1.frozen? ⟨w.heap.size, k, none⟩ = false := HR1.out.frozen k
      have hc0 : w1.cell? ⟨w.heap.size, k, none⟩ = some (.slice none 0 0) := by rw [HR1.out.cell hlt, if_neg (by omega)]
      have HGE := hide hge
      have HB := hide hb
      clear hge hb HR c0
      go_wp2_with fail
      go_roundw
      case rel =>
        refine ⟨k + 1, fun j => if j = k then some ⟨G, 0, none⟩ else A j, fun j => if j = k then es.length else C j, by omega, by go_num, hide ?_, hide ?_, hide ((below_next HW.out HB.out).setCell (p := ⟨w.heap.size, k, none⟩) (Nat.le_refl _) _)⟩
        · have hc : w1.rowIs w.heap.size 35 ls.length (fun j => if j < k then lyF (fun j => if j = k then some ⟨G, 0, none⟩ else A j) (fun j => if j = k then es.length else C j) ls j else .slice none 0 0) := HR1.out.congr (fun j hj => by
            by_cases h1 : j < k
            · have h2 : ¬ j = k := by omega
              simp [h1, h2, lyF]
            · simp [h1])
          have := row_step (f := lyF (fun j => if j = k then some ⟨G, 0, none⟩ else A j) (fun j => if j = k then es.length else C j) ls) (z := fun _ => .slice none 0 0) hc
          have e9 : lyF (fun j => if j = k then some ⟨G, 0, none⟩ else A j) (fun j => if j = k then es.length else C j) ls k = .slice (some ⟨G, 0, none⟩) es.length es.length := by unfold lyF; rw [HGD.out]; simp
          rw [e9] at this
          exact this
        · intro j hj
          have hkp : Kept (fun b => b = w.heap.size) w1 (w1.setCell ⟨w.heap.size, k, none⟩ (.slice (some ⟨G, 0, none⟩) es.length es.length)) := Kept.setCell (S := fun b => b = w.heap.size) (p := ⟨w.heap.size, k, none⟩) (Kept.refl _ w1) (fun _ => rfl) _
          by_cases h1 : j = k
          · subst h1
            refine ⟨wr.heap.size, w1.heap.size, hlw, ?_⟩
            have e9 : lyF (fun i => if i = j then some ⟨G, 0, none⟩ else A i) (fun i => if i = j then es.length else C i) ls j = .slice (some ⟨G, 0, none⟩) es.length es.length := by unfold lyF; rw [HGD.out]; simp
            rw [e9, HGD.out]
            exact HGE.out.kept hkp (fun b hb _ e => by omega)
          · obtain ⟨B, T, h2, h3⟩ := HG.out j (by omega)
            refine ⟨B, T, h2, ?_⟩
            have e9 : lyF (fun i => if i = k then some ⟨G, 0, none⟩ else A i) (fun i => if i = k then es.length else C i) ls j = lyF A C ls j := by unfold lyF; simp [h1]
            rw [e9]
            exact (h3.below HB.out).kept hkp (fun b hb _ e => by omega)
      case measure => simp [intOf]; omega
    · have hke : k = ls.length := by omega
      go_wp2_with fail
      go_ret
      refine ⟨_, rfl, fun hz => ⟨w.heap.size, 0, A, C, rfl, HR.out.lt, fun i es he => ?_⟩, HW.out⟩
      have hi := (List.getElem?_eq_some_iff.1 he).1
      have hgd : ls.getD i [] = es := by rw [List.getD_eq_getElem?_getD, he]; rfl
      obtain ⟨B, T, h2, h3⟩ := HG.out i (by omega)
      unfold lyF at h3
      rw [hgd] at h3
      refine ⟨?_, h3.rd⟩
      have := HR.out.cell hi
      rw [if_pos (by omega)] at this
      unfold lyF at this
      rw [hgd] at this
      simpa using this

set_option maxRecDepth 100000 in
set_option maxHeartbeats 800000 in
theorem eqEntrySS_same (a b : Option Addr) (ca cb n : Nat) (ls : List (List En)) (w : World) (ha : RdL w a ls) (hb : RdL w b ls) (hn : n = ls.length) (hl : ls.length ≤ 1048576) (hs : SmallL ls) :
    Calls Tryz.prog 29 #[.slice a n ca, .slice b n cb] w fun e w' => e = .returned (.bool true) ∧ Below w.heap.size w w' := by
  subst hn
  have hne : ((ls.length : Int) != (ls.length : Int)) = false := by simp
  have HA := hide ha
  have HB := hide hb
  have HS := hide hs
  clear ha hb hs
  go_enter Tryz.func29, Tryz.ntmps29
  go_wp2_with fail
  go_loopw [5] (fun i wr => ∃ k : Nat, k ≤ ls.length ∧ i = .int .i64 k ∧ Hid (Below w.heap.size w wr)) (fun i _ => ls.length - (intOf i).toNat)
  case atStart => exact ⟨0, Nat.zero_le _, rfl, hide (Below.refl _ _)⟩
  case round =>
    obtain ⟨k, hk, rfl, HW⟩ := hrel
    by_cases hlt : k < ls.length
    · obtain ⟨b1, o1, es, x, cc, rfl, hb1, he, c0, hr⟩ := (HA.out.below HW.out).at hlt
      obtain ⟨b2, o2, es2, x2, cc2, rfl, hb2, he2, c02, hr2⟩ := (HB.out.below HW.out).at hlt
      have e9 : es2 = es := by rw [he] at he2; exact (Option.some.inj he2).symm
      subst e9
      obtain ⟨hel, hsm⟩ := HS.out es2 (List.mem_of_getElem? he)
      have HT := hide (fun (u : World) (hu : Below wr.heap.size wr u) => eqEntryS_same x x2 cc cc2 es2.length es2 u (hr.below hu) (hr2.below hu) rfl hel (fun e he => (hsm e he).2))
      have KC : Hid (∀ w' : World, Below wr.heap.size wr w' → w'.cell? ⟨b1, o1 + k, none⟩ = some (.slice x es2.length cc) ∧ w'.cell? ⟨b2, o2 + k, none⟩ = some (.slice x2 es2.length cc2)) := hide (fun w' hb => ⟨(hb.cell (p := ⟨b1, o1 + k, none⟩) hb1).trans c0, (hb.cell (p := ⟨b2, o2 + k, none⟩) hb2).trans c02⟩)
      clear he he2 hr hr2 hsm
      go_wp2_with fail
      go_region_held3 (fun w' => w'.cell? ⟨b1, o1 + k, none⟩ = some (.slice x es2.length cc) ∧ w'.cell? ⟨b2, o2 + k, none⟩ = some (.slice x2 es2.length cc2)) (first | exact KC.out _ HB1.out | go_keep)
        ((first
          | (go_at_call 70; refine (HT.out _ (Below.refl _ _).drew).mono ?_; rintro r w8 ⟨rfl, b8⟩; have HB1 := hide ((Below.refl wr.heap.size wr).drew.trans b8); clear b8)))
      clear c0 c02
      go_wp2_with fail
      go_roundw
      case rel => exact ⟨k + 1, by omega, by go_num, hide (below_next HW.out HB1.out)⟩
      case measure => simp [intOf]; omega
    · go_wp2_with fail
      go_ret
      exact ⟨rfl, HW.out⟩

theorem layers_of_trod {H : Type} {enc : TypeId × Value → H} {W : World} {a : Option Addr} {n c fuel : Nat} {x : DataW H × List MemPlace}
    (h : DataW.trod enc Tryz.prog W 0 (fun _ => true) true fuel 55 [.slice a n c] = some x) :
    ∃ ls : List (List En), ls.length = n ∧ RdL W a ls ∧ ls.length ≤ maxLen ∧ ∀ es ∈ ls, es.length ≤ maxLen ∧ ∀ e ∈ es, e.path.length ≤ maxLen ∧ e.chunks.length ≤ maxLen := by
  rcases Deep.open_slice Tryz.underlying55 h with ⟨hcs, _⟩ | ⟨ad, l, cp, m, fu, D, Pl, hcs, _, hl, hm, hmm, _, hx⟩
  · simp at hcs
    obtain ⟨rfl, rfl, rfl⟩ := hcs
    exact ⟨[], rfl, fun h => absurd rfl h, Nat.zero_le _, fun e he => by simp at he⟩
  · simp at hcs
    obtain ⟨rfl, rfl, rfl⟩ := hcs
    simp only [if_true] at hmm
    subst hmm
    have ce : Tryz.prog.cellsOf 122 = 1 := by kernel_rfl
    have each : ∀ i, i < n → ∃ q : List En × Option Addr × Nat, W.cell? (ad.add i) = some (.slice q.2.1 q.1.length q.2.2) ∧ RdE W q.2.1 q.1 ∧ q.1.length ≤ maxLen ∧ ∀ e ∈ q.1, e.path.length ≤ maxLen ∧ e.chunks.length ≤ maxLen := by
      intro i hi
      obtain ⟨cs', h1, h2⟩ := hx i (by omega)
      rw [ce] at h1
      obtain ⟨_, hlen, hcell⟩ := World.cells?_some h1
      have e0 := hcell 0 (by omega)
      rw [Deep.add_add] at e0
      obtain ⟨a1, n1, c1, rfl⟩ : ∃ a1 n1 c1, cs' = [.slice a1 n1 c1] := by
        rcases Deep.open_slice Tryz.underlying122 h2 with ⟨hcs, _⟩ | ⟨ad2, l2, cp2, m2, fu2, D2, Pl2, hcs, _⟩
        · exact ⟨_, _, _, hcs⟩
        · exact ⟨_, _, _, hcs⟩
      obtain ⟨es, hes, hr, hm1, hm2⟩ := entries_of_trod h2
      subst hes
      exact ⟨(es, a1, c1), by simpa using e0, hr, hm1, hm2⟩
    haveI : Inhabited (List En × Option Addr × Nat) := ⟨([], none, 0)⟩
    obtain ⟨q, hq⟩ := Deep.choose_lt each
    refine ⟨(List.range n).map fun i => (q i).1, by simp, ?_, by simp; omega, ?_⟩
    · intro hz
      have hn : 0 < n := by
        rcases Nat.eq_zero_or_pos n with h0 | h0
        · subst h0; exact absurd rfl hz
        · exact h0
      obtain ⟨b, off, spot⟩ := ad
      have hspot : spot = none := by simpa [Addr.add] using World.cell?_spot (hq 0 hn).1
      subst hspot
      refine ⟨b, off, fun i => (q i).2.1, fun i => (q i).2.2, rfl, World.block_lt_of_cell? W _ (by simpa [Addr.add] using (hq 0 hn).1), fun i es he => ?_⟩
      have hi : i < n := by have := (List.getElem?_eq_some_iff.1 he).1; simpa using this
      have hee : (q i).1 = es := by simpa [hi] using he
      subst hee
      obtain ⟨c0, hr, -⟩ := hq i hi
      rw [add_addr] at c0
      exact ⟨c0, hr⟩
    · intro es he
      obtain ⟨i, hi, rfl⟩ := List.mem_map.1 he
      exact (hq i (List.mem_range.1 hi)).2.2

end Go.Proofs.YtejipahfodhmjaaGreat

namespace Go.Proofs.YtejipahfodhmjaaGreat
open Go.ChangeShapes Go.WideShapes Go.ChangeAt Go.RowKit
set_option linter.unusedVariables false

theorem bytes_of_trod {H : Type} {enc : TypeId × Value → H} {W : World} {a : Option Addr} {n c fuel : Nat} {x : DataW H × List MemPlace}
    (h : DataW.trod enc Tryz.prog W 0 (fun _ => true) true fuel 22 [.slice a n c] = some x) : ∃ zs : List Int, zs.length = n ∧ Reads .u8 W a zs ∧ U8 zs ∧ zs.length ≤ maxLen := by
  rcases open_ints Tryz.underlying22 Tryz.underlying5 (by kernel_rfl) h with ⟨hcs, _⟩ | ⟨x, l, c, zs, hcs, _, hl, hm, hz, _, hcell, hwz⟩
  · simp at hcs
    obtain ⟨rfl, rfl, rfl⟩ := hcs
    exact ⟨[], rfl, fun h => absurd rfl h, fun z hz => by simp at hz, Nat.zero_le _⟩
  · simp at hcs
    obtain ⟨rfl, rfl, rfl⟩ := hcs
    exact reads_of_row (by simpa using hz) hl hm hcell hwz

theorem rdC_of_trod {H : Type} {enc : TypeId × Value → H} {W : World} {a : Option Addr} {n c fuel : Nat} {x : DataW H × List MemPlace}
    (h : DataW.trod enc Tryz.prog W 0 (fun _ => true) true fuel 56 [.slice a n c] = some x) :
    ∃ (D : Nat → Int) (P : Nat → List Int), RdC W a D P n ∧ n ≤ maxLen ∧ ∀ i, i < n → (Lit.int .i64 (D i)).wf = true ∧ U8 (P i) ∧ (P i).length ≤ maxLen := by
  rcases Deep.open_slice_pairs Tryz.underlying56 Tryz.underlying124 (by kernel_rfl) rfl rfl (by kernel_rfl) (by kernel_rfl) h with ⟨hcs, _⟩ | ⟨x, l, cp, m, fu, V0, V1, D0, D1, P0, P1, hcs, _, hl, hm, hmm, _, hx⟩
  · simp at hcs
    obtain ⟨rfl, rfl, rfl⟩ := hcs
    exact ⟨fun _ => 0, fun _ => [], fun h => absurd h (by omega), Nat.zero_le _, fun i hi => absurd hi (by omega)⟩
  · simp at hcs
    obtain ⟨rfl, rfl, rfl⟩ := hcs
    simp only [if_true] at hmm
    subst hmm
    have each : ∀ i, i < n → ∃ q : Int × List Int × Option Addr × Nat, V0 i = .int .i64 q.1 ∧ V1 i = .slice q.2.2.1 q.2.1.length q.2.2.2 ∧ Reads .u8 W q.2.2.1 q.2.1 ∧ (Lit.int .i64 q.1).wf = true ∧ U8 q.2.1 ∧ q.2.1.length ≤ maxLen := by
      intro i hi
      obtain ⟨c0, c1, t0, t1⟩ := hx i (by omega)
      obtain ⟨z, hz, _, hw⟩ := DataW.trod_int Tryz.underlying2 t0
      obtain ⟨a1, n1, k1, e1⟩ : ∃ a1 n1 k1, V1 i = .slice a1 n1 k1 := by
        rcases open_ints Tryz.underlying22 Tryz.underlying5 (by kernel_rfl) t1 with ⟨hcs, _⟩ | ⟨x, l, c, zs, hcs, _⟩
        · simp at hcs; exact ⟨_, _, _, hcs⟩
        · simp at hcs; exact ⟨_, _, _, hcs⟩
      rw [e1] at t1
      obtain ⟨zs, rfl, hr, hu, hml⟩ := bytes_of_trod t1
      simp at hz
      exact ⟨(z, zs, a1, k1), hz, e1, hr, hw, hu, hml⟩
    haveI : Inhabited (Int × List Int × Option Addr × Nat) := ⟨(0, [], none, 0)⟩
    obtain ⟨q, hq⟩ := Deep.choose_lt each
    refine ⟨fun i => (q i).1, fun i => (q i).2.1, ?_, by omega, fun i hi => (hq i hi).2.2.2⟩
    intro hn
    obtain ⟨b, off, spot⟩ := x
    have hc0 := (hx 0 (by omega)).1
    have hspot : spot = none := by simpa [Addr.add] using World.cell?_spot hc0
    subst hspot
    refine ⟨b, off, fun i => (q i).2.2.1, fun i => (q i).2.2.2, rfl, World.block_lt_of_cell? W _ (by simpa [Addr.add] using hc0), fun i hi => ?_⟩
    obtain ⟨c0, c1, _, _⟩ := hx i (by omega)
    obtain ⟨e0, e1, hr, _⟩ := hq i hi
    have ea : ∀ t, (⟨b, off, none⟩ : Addr).add t = ⟨b, off + t, none⟩ := fun t => by unfold Addr.add; split <;> simp_all
    rw [ea, e0] at c0
    rw [ea, e1] at c1
    exact ⟨c0, by rw [Nat.add_assoc]; exact c1, hr⟩

end Go.Proofs.YtejipahfodhmjaaGreat

