/-
  Texts put together: MntK MntL MntE.
-/
import Derived.Test.YtebgfaohhhgdpaaGreatKCopies18
import Derived.Test.YtebgfaohhhgdpaaGreatKCopies17
import Derived.Test.YtebgfaohhhgdpaaGreatKCopies14
namespace Go.Proofs.YtebgfaohhhgdpaaGreat
open Go.RowKit Go.Maps
set_option linter.unusedVariables false
attribute [local go_sem ↓] Go.wp_at_zero Go.wp_at_succ

set_option maxRecDepth 100000 in
set_option maxHeartbeats 6400000 in
theorem l9Make_any (a : Option Addr) (c n : Nat) (ls : List (List En)) (u : Option Addr) (uc m : Nat) (U : List En) (p : Bs) (w : World) (h : RdL w a ls) (hn : n = ls.length) (hU : RdE w u U) (hm : m = U.length) (h4 : (ls ++ [U]).length ≤ 4) (hR : ∀ es ∈ ls ++ [U], Right es) (hp : faultP p = 0) (hpl : p.length ≤ 1048576) :
    Calls Tryz.prog 43 #[.slice a n c, .slice u m uc, .string (str p)] w fun r w' => ∃ rep V, MkS (allE (ls ++ [U])) U p rep V ∧ ResG 0 rep V w r w' := by
  subst hn
  subst hm
  have hRU : Right U := hR U (by simp)
  have hl4 : ls.length ≤ 4 := by rw [List.length_append] at h4; omega
  have hUl := hRU.len
  have HUs := hide (right_small hRU)
  have HP := hide hp
  have X0 := hide (Box3.new w (.int .i64 0) (.int .i64 0) (.slice none 0 0) 32)
  have B0 := hide (below_alloc w (.cells #[.int .i64 0, .int .i64 0, .slice none 0 0] 32))
  have HA := hide (l9All_any a c ls.length ls u uc U.length U _ (h.below B0.out) rfl (by omega) (hU.below B0.out) rfl)
  have HU := hide hU
  have HST := hide (fun (q : Int) v (hv : Below w.heap.size w v) => l9Reply_any u uc U.length U q v (HU.out.below hv) rfl (by omega) HUs.out)
  have HRR := hide hR
  have H4 := hide h4
  clear h hU hR hRU hp h4
  obtain ⟨al, hal⟩ : ∃ al, al = ls ++ [U] := ⟨_, rfl⟩
  rw [← hal] at HA HRR H4 ⊢
  have HALL := hide hal
  clear hal
  by_cases hh : homeC (allE al) p = 0
  · cases ha : findE (allE al) p with
    | none =>
      have HC := hide (show mkS (allE al) p = 0 by simp [mkS, hh, ha])
      cases hat : atE U p with
      | none =>
        have HAT0 := hide hat
        have hdf : dirF U p = ⟨p, 2, 0, []⟩ := by simp [dirF, find_at_none hat]
        clear hat
        obtain ⟨rep, V, hV⟩ := fills_ex U U (dirF U p)
        have HCP := hide (MkS.fill HC.out hV)
        rw [hdf] at hV
        have HV := hide hV
        clear hV hdf HC
        go_enter Tryz.func43, Tryz.ntmps43
        go_wp2_with fail
        refine HA.out.mono ?_
        rintro r w1 ⟨av, cv, rfl, hr1, hb1⟩
        have X1 := hide (X0.out.below hb1)
        have B1 := hide (below_next B0.out hb1)
        have R1 := hide hr1
        have hlt := X1.out.lt
        clear hr1 hb1 HA X0 B0
        have HHM := hide (l9Home_any av cv _ _ p w1 R1.out rfl H4.out HRR.out HP.out hpl)
        rw [hh] at HHM
        clear hh
        go_wp2_with fail
        refine HHM.out.mono ?_
        rintro r w2 ⟨rfl, hb2⟩
        have X2 := hide (X1.out.below hb2)
        have B2 := hide (below_next B1.out hb2)
        have R2 := hide (R1.out.below hb2)
        clear hb2 HHM X1 B1 R1
        have HLK := hide (l8Look_no av cv _ _ p w2 R2.out rfl H4.out HRR.out HP.out hpl ha)
        clear ha
        go_wp2_with fail
        refine HLK.out.mono ?_
        rintro r w3 ⟨rfl, hb3⟩
        have A3 := hide (below_alloc w3 (.cells #[.string ⟨#[]⟩, .int .i64 0, .int .i64 0, .slice none 0 0] 53))
        have B3 := hide (below_next B2.out (below_next hb3 A3.out))
        have X3 := hide (X2.out.below (below_next hb3 A3.out))
        have R3 := hide (R2.out.below (below_next hb3 A3.out))
        obtain ⟨f0, f1, f2, f3⟩ := Four.new w3 (.string ⟨#[]⟩) (.int .i64 0) (.int .i64 0) (.slice none 0 0) 53
        clear hb3 A3 HLK X2 B2 R2
        go_wp2_with fail
        clear f0 f1 f2 f3
        generalize hW3 : w3.alloc (.cells #[.string ⟨#[]⟩, .int .i64 0, .int .i64 0, .slice none 0 0] 53) = W3 at *
        have HS3 := hide (show W3.heap.size = w3.heap.size + 1 by rw [← hW3]; simp)
        clear hW3
        have A4 := hide (below_alloc W3 (.cells #[.string (str p), .int .i64 2, .int .i64 0, .slice none 0 0] 53))
        have B4 := hide (below_next B3.out A4.out)
        have X4 := hide (X3.out.below A4.out)
        have HAT := hide (l4At_any u uc U.length U p _ (HU.out.below B4.out) rfl (by omega))
        have F4 := hide (Four.new W3 (.string (str p)) (.int .i64 2) (.int .i64 0) (.slice none 0 0) 53)
        rw [HS3.out] at F4
        have K4 : Hid (∀ i, (W3.alloc (.cells #[.string (str p), .int .i64 2, .int .i64 0, .slice none 0 0] 53)).frozen? ⟨w3.heap.size + 1, i, none⟩ = false) := hide (fun i => by rw [← HS3.out]; simp)
        have hlt3 := B3.out.size
        refine HAT.out.mono ?_
        rintro r w4 ⟨rfl, rfl⟩
        rw [HAT0.out]
        simp only [placeI]
        clear HAT HAT0
        obtain ⟨f0, f1, f2, f3⟩ := F4.out
        go_wp2_with fail
        clear f0 f1 f2 f3
        generalize W3.alloc (.cells #[.string (str p), .int .i64 2, .int .i64 0, .slice none 0 0] 53) = W4 at *
        have HFL := hide (l9Fill_any u uc U.length U u uc U.length U ⟨p, 2, 0, []⟩ none 0 0 W4 (HU.out.below B4.out) rfl (by omega) HUs.out (HU.out.below B4.out) rfl (by omega) HUs.out HP.out rfl (fun hz => absurd rfl hz) hpl (by simp) rep V HV.out)
        refine HFL.out.mono ?_
        rintro r w9 ⟨av9, cv9, rfl, hG9, hb9⟩
        have G9 := hide hG9
        have B9 := hide (below_next B4.out hb9)
        have hl9 := X4.out.lt
        obtain ⟨⟨t0, t1, t2⟩, t3, t4, t5⟩ := X4.out.below hb9
        clear hG9 hb9
        go_wp2_with fail
        exact bodyPost_ret (v := .agg #[.int .i64 0, .int .i64 rep, .slice av9 V.length cv9]) (by simp [results, Tryz.results43, go_sem, t0, t1, t2]) rfl ⟨rep, V, HCP.out, ResG.of hl9 (Nat.le_refl _) rfl G9.out B9.out⟩
      | some k =>
        have hk := atE_lt hat
        obtain ⟨y, hy⟩ : ∃ y, U[k]? = some y := ⟨U[k], List.getElem?_eq_getElem hk⟩
        have HAT0 := hide hat
        have HY := hide hy
        by_cases hy3 : y.kind = 3
        · have hdf : dirF U p = ⟨p, 4, 0, []⟩ := by simp [dirF, find_at hat hy, hy3]
          have hy3b : (y.kind == 3) = true := by simpa using hy3
          clear hat hy hy3
          obtain ⟨rep, V, hV⟩ := fills_ex U U (dirF U p)
          have HCP := hide (MkS.fill HC.out hV)
          rw [hdf] at hV
          have HV := hide hV
          clear hV hdf HC
          go_enter Tryz.func43, Tryz.ntmps43
          go_wp2_with fail
          refine HA.out.mono ?_
          rintro r w1 ⟨av, cv, rfl, hr1, hb1⟩
          have X1 := hide (X0.out.below hb1)
          have B1 := hide (below_next B0.out hb1)
          have R1 := hide hr1
          have hlt := X1.out.lt
          clear hr1 hb1 HA X0 B0
          have HHM := hide (l9Home_any av cv _ _ p w1 R1.out rfl H4.out HRR.out HP.out hpl)
          rw [hh] at HHM
          clear hh
          go_wp2_with fail
          refine HHM.out.mono ?_
          rintro r w2 ⟨rfl, hb2⟩
          have X2 := hide (X1.out.below hb2)
          have B2 := hide (below_next B1.out hb2)
          have R2 := hide (R1.out.below hb2)
          clear hb2 HHM X1 B1 R1
          have HLK := hide (l8Look_no av cv _ _ p w2 R2.out rfl H4.out HRR.out HP.out hpl ha)
          clear ha
          go_wp2_with fail
          refine HLK.out.mono ?_
          rintro r w3 ⟨rfl, hb3⟩
          have A3 := hide (below_alloc w3 (.cells #[.string ⟨#[]⟩, .int .i64 0, .int .i64 0, .slice none 0 0] 53))
          have B3 := hide (below_next B2.out (below_next hb3 A3.out))
          have X3 := hide (X2.out.below (below_next hb3 A3.out))
          have R3 := hide (R2.out.below (below_next hb3 A3.out))
          obtain ⟨f0, f1, f2, f3⟩ := Four.new w3 (.string ⟨#[]⟩) (.int .i64 0) (.int .i64 0) (.slice none 0 0) 53
          clear hb3 A3 HLK X2 B2 R2
          go_wp2_with fail
          clear f0 f1 f2 f3
          generalize hW3 : w3.alloc (.cells #[.string ⟨#[]⟩, .int .i64 0, .int .i64 0, .slice none 0 0] 53) = W3 at *
          have HS3 := hide (show W3.heap.size = w3.heap.size + 1 by rw [← hW3]; simp)
          clear hW3
          have A4 := hide (below_alloc W3 (.cells #[.string (str p), .int .i64 2, .int .i64 0, .slice none 0 0] 53))
          have B4 := hide (below_next B3.out A4.out)
          have X4 := hide (X3.out.below A4.out)
          have HAT := hide (l4At_any u uc U.length U p _ (HU.out.below B4.out) rfl (by omega))
          have F4 := hide (Four.new W3 (.string (str p)) (.int .i64 2) (.int .i64 0) (.slice none 0 0) 53)
          rw [HS3.out] at F4
          have K4 : Hid (∀ i, (W3.alloc (.cells #[.string (str p), .int .i64 2, .int .i64 0, .slice none 0 0] 53)).frozen? ⟨w3.heap.size + 1, i, none⟩ = false) := hide (fun i => by rw [← HS3.out]; simp)
          have hlt3 := B3.out.size
          refine HAT.out.mono ?_
          rintro r w4 ⟨rfl, rfl⟩
          rw [HAT0.out]
          simp only [placeI]
          clear HAT HAT0
          obtain ⟨f0, f1, f2, f3⟩ := F4.out
          obtain ⟨yb, yo, y', yx, yc, rfl, hyb, hye, y0, y1, y2, y3, hyr⟩ := (HU.out.below B4.out).at hk
          have hyy : y' = y := Option.some.inj (hye.symm.trans HY.out)
          subst hyy
          clear hye hyr
          have hk0 : (0 : Int) ≤ (k : Int) := by omega
          have hk1 : (k : Int) < (U.length : Int) := by omega
          have A5 := hide (A4.out.setCell (p := ⟨w3.heap.size + 1, 1, none⟩) (Nat.le_of_eq HS3.out) (.int .i64 4))
          have B5 := hide (below_next B3.out A5.out)
          have X5 := hide (X3.out.below A5.out)
          have k1 := K4.out 1
          have g0 : ((W3.alloc (.cells #[.string (str p), .int .i64 2, .int .i64 0, .slice none 0 0] 53)).setCell ⟨w3.heap.size + 1, 1, none⟩ (.int .i64 4)).cell? ⟨w3.heap.size + 1, 0, none⟩ = some (.string (str p)) := by rw [cell_set_other (by simp)]; exact f0
          have g1 : ((W3.alloc (.cells #[.string (str p), .int .i64 2, .int .i64 0, .slice none 0 0] 53)).setCell ⟨w3.heap.size + 1, 1, none⟩ (.int .i64 4)).cell? ⟨w3.heap.size + 1, 1, none⟩ = some (.int .i64 4) := cell_set_same f1
          have g2 : ((W3.alloc (.cells #[.string (str p), .int .i64 2, .int .i64 0, .slice none 0 0] 53)).setCell ⟨w3.heap.size + 1, 1, none⟩ (.int .i64 4)).cell? ⟨w3.heap.size + 1, 2, none⟩ = some (.int .i64 0) := by rw [cell_set_other (by simp)]; exact f2
          have g3 : ((W3.alloc (.cells #[.string (str p), .int .i64 2, .int .i64 0, .slice none 0 0] 53)).setCell ⟨w3.heap.size + 1, 1, none⟩ (.int .i64 4)).cell? ⟨w3.heap.size + 1, 3, none⟩ = some (.slice none 0 0) := by rw [cell_set_other (by simp)]; exact f3
          go_wp2_with fail
          clear f0 f1 f2 f3 g0 g1 g2 g3 k1 y0 y1 y2 y3
          generalize (W3.alloc (.cells #[.string (str p), .int .i64 2, .int .i64 0, .slice none 0 0] 53)).setCell ⟨w3.heap.size + 1, 1, none⟩ (.int .i64 4) = W5 at *
          have HFL := hide (l9Fill_any _ uc U.length U _ uc U.length U ⟨p, 4, 0, []⟩ none 0 0 W5 (HU.out.below B5.out) rfl (by omega) HUs.out (HU.out.below B5.out) rfl (by omega) HUs.out HP.out rfl (fun hz => absurd rfl hz) hpl (by simp) rep V HV.out)
          refine HFL.out.mono ?_
          rintro r w9 ⟨av9, cv9, rfl, hG9, hb9⟩
          have G9 := hide hG9
          have B9 := hide (below_next B5.out hb9)
          have hl9 := X5.out.lt
          obtain ⟨⟨t0, t1, t2⟩, t3, t4, t5⟩ := X5.out.below hb9
          clear hG9 hb9
          go_wp2_with fail
          exact bodyPost_ret (v := .agg #[.int .i64 0, .int .i64 rep, .slice av9 V.length cv9]) (by simp [results, Tryz.results43, go_sem, t0, t1, t2]) rfl ⟨rep, V, HCP.out, ResG.of hl9 (Nat.le_refl _) rfl G9.out B9.out⟩
        · have hdf : dirF U p = ⟨p, 2, 0, []⟩ := by simp [dirF, find_at hat hy, hy3]
          have hy3b : (y.kind == 3) = false := by simpa using hy3
          clear hat hy hy3
          obtain ⟨rep, V, hV⟩ := fills_ex U U (dirF U p)
          have HCP := hide (MkS.fill HC.out hV)
          rw [hdf] at hV
          have HV := hide hV
          clear hV hdf HC
          go_enter Tryz.func43, Tryz.ntmps43
          go_wp2_with fail
          refine HA.out.mono ?_
          rintro r w1 ⟨av, cv, rfl, hr1, hb1⟩
          have X1 := hide (X0.out.below hb1)
          have B1 := hide (below_next B0.out hb1)
          have R1 := hide hr1
          have hlt := X1.out.lt
          clear hr1 hb1 HA X0 B0
          have HHM := hide (l9Home_any av cv _ _ p w1 R1.out rfl H4.out HRR.out HP.out hpl)
          rw [hh] at HHM
          clear hh
          go_wp2_with fail
          refine HHM.out.mono ?_
          rintro r w2 ⟨rfl, hb2⟩
          have X2 := hide (X1.out.below hb2)
          have B2 := hide (below_next B1.out hb2)
          have R2 := hide (R1.out.below hb2)
          clear hb2 HHM X1 B1 R1
          have HLK := hide (l8Look_no av cv _ _ p w2 R2.out rfl H4.out HRR.out HP.out hpl ha)
          clear ha
          go_wp2_with fail
          refine HLK.out.mono ?_
          rintro r w3 ⟨rfl, hb3⟩
          have A3 := hide (below_alloc w3 (.cells #[.string ⟨#[]⟩, .int .i64 0, .int .i64 0, .slice none 0 0] 53))
          have B3 := hide (below_next B2.out (below_next hb3 A3.out))
          have X3 := hide (X2.out.below (below_next hb3 A3.out))
          have R3 := hide (R2.out.below (below_next hb3 A3.out))
          obtain ⟨f0, f1, f2, f3⟩ := Four.new w3 (.string ⟨#[]⟩) (.int .i64 0) (.int .i64 0) (.slice none 0 0) 53
          clear hb3 A3 HLK X2 B2 R2
          go_wp2_with fail
          clear f0 f1 f2 f3
          generalize hW3 : w3.alloc (.cells #[.string ⟨#[]⟩, .int .i64 0, .int .i64 0, .slice none 0 0] 53) = W3 at *
          have HS3 := hide (show W3.heap.size = w3.heap.size + 1 by rw [← hW3]; simp)
          clear hW3
          have A4 := hide (below_alloc W3 (.cells #[.string (str p), .int .i64 2, .int .i64 0, .slice none 0 0] 53))
          have B4 := hide (below_next B3.out A4.out)
          have X4 := hide (X3.out.below A4.out)
          have HAT := hide (l4At_any u uc U.length U p _ (HU.out.below B4.out) rfl (by omega))
          have F4 := hide (Four.new W3 (.string (str p)) (.int .i64 2) (.int .i64 0) (.slice none 0 0) 53)
          rw [HS3.out] at F4
          have K4 : Hid (∀ i, (W3.alloc (.cells #[.string (str p), .int .i64 2, .int .i64 0, .slice none 0 0] 53)).frozen? ⟨w3.heap.size + 1, i, none⟩ = false) := hide (fun i => by rw [← HS3.out]; simp)
          have hlt3 := B3.out.size
          refine HAT.out.mono ?_
          rintro r w4 ⟨rfl, rfl⟩
          rw [HAT0.out]
          simp only [placeI]
          clear HAT HAT0
          obtain ⟨f0, f1, f2, f3⟩ := F4.out
          obtain ⟨yb, yo, y', yx, yc, rfl, hyb, hye, y0, y1, y2, y3, hyr⟩ := (HU.out.below B4.out).at hk
          have hyy : y' = y := Option.some.inj (hye.symm.trans HY.out)
          subst hyy
          clear hye hyr
          have hk0 : (0 : Int) ≤ (k : Int) := by omega
          have hk1 : (k : Int) < (U.length : Int) := by omega
          go_wp2_with fail
          clear y0 y1 y2 y3
          clear f0 f1 f2 f3
          generalize W3.alloc (.cells #[.string (str p), .int .i64 2, .int .i64 0, .slice none 0 0] 53) = W4 at *
          have HFL := hide (l9Fill_any _ uc U.length U _ uc U.length U ⟨p, 2, 0, []⟩ none 0 0 W4 (HU.out.below B4.out) rfl (by omega) HUs.out (HU.out.below B4.out) rfl (by omega) HUs.out HP.out rfl (fun hz => absurd rfl hz) hpl (by simp) rep V HV.out)
          refine HFL.out.mono ?_
          rintro r w9 ⟨av9, cv9, rfl, hG9, hb9⟩
          have G9 := hide hG9
          have B9 := hide (below_next B4.out hb9)
          have hl9 := X4.out.lt
          obtain ⟨⟨t0, t1, t2⟩, t3, t4, t5⟩ := X4.out.below hb9
          clear hG9 hb9
          go_wp2_with fail
          exact bodyPost_ret (v := .agg #[.int .i64 0, .int .i64 rep, .slice av9 V.length cv9]) (by simp [results, Tryz.results43, go_sem, t0, t1, t2]) rfl ⟨rep, V, HCP.out, ResG.of hl9 (Nat.le_refl _) rfl G9.out B9.out⟩
    | some e =>
      have HC := hide (show mkS (allE al) p = 7 by simp [mkS, hh, ha])
      go_enter Tryz.func43, Tryz.ntmps43
      go_wp2_with fail
      refine HA.out.mono ?_
      rintro r w1 ⟨av, cv, rfl, hr1, hb1⟩
      have X1 := hide (X0.out.below hb1)
      have B1 := hide (below_next B0.out hb1)
      have R1 := hide hr1
      have hlt := X1.out.lt
      clear hr1 hb1 HA X0 B0
      have HHM := hide (l9Home_any av cv _ _ p w1 R1.out rfl H4.out HRR.out HP.out hpl)
      rw [hh] at HHM
      clear hh
      go_wp2_with fail
      refine HHM.out.mono ?_
      rintro r w2 ⟨rfl, hb2⟩
      have X2 := hide (X1.out.below hb2)
      have B2 := hide (below_next B1.out hb2)
      have R2 := hide (R1.out.below hb2)
      clear hb2 HHM X1 B1 R1
      have HLK := hide (l8Look_yes av cv _ _ p w2 R2.out rfl H4.out HRR.out HP.out hpl e ha)
      clear ha
      go_wp2_with fail
      refine HLK.out.mono ?_
      rintro r w3 ⟨x, xc, rfl, -, hb3⟩
      have A3 := hide (below_alloc w3 (.cells #[.string (str e.path), .int .i64 e.kind, .int .i64 e.size, .slice x e.chunks.length xc] 53))
      have B3 := hide (below_next B2.out (below_next hb3 A3.out))
      have X3 := hide (X2.out.below (below_next hb3 A3.out))
      have R3 := hide (R2.out.below (below_next hb3 A3.out))
      obtain ⟨f0, f1, f2, f3⟩ := Four.new w3 (.string (str e.path)) (.int .i64 e.kind) (.int .i64 e.size) (.slice x e.chunks.length xc) 53
      clear hb3 A3 HLK X2 B2 R2
      go_wp2_with fail
      clear f0 f1 f2 f3
      generalize w3.alloc (.cells #[.string (str e.path), .int .i64 e.kind, .int .i64 e.size, .slice x e.chunks.length xc] 53) = W3 at *
      refine (HST.out 7 W3 B3.out).mono ?_
      rintro r w9 ⟨av9, cv9, rfl, hG9, hb9⟩
      have G9 := hide hG9
      have B9 := hide (below_next B3.out hb9)
      have hl9 := X3.out.lt
      obtain ⟨⟨t0, t1, t2⟩, t3, t4, t5⟩ := X3.out.below hb9
      clear hG9 hb9
      go_wp2_with fail
      exact bodyPost_ret (v := .agg #[.int .i64 0, .int .i64 7, .slice av9 U.length cv9]) (by simp [results, Tryz.results43, go_sem, t0, t1, t2]) rfl ⟨7, U, MkS.stay HC.out (by decide), ResG.of hl9 (Nat.le_refl _) rfl G9.out B9.out⟩
  · have HC := hide (show mkS (allE al) p = homeC (allE al) p by simp [mkS, hh])
    have HH0 := hide hh
    obtain ⟨F, hF⟩ : ∃ F, F = homeC (allE al) p := ⟨_, rfl⟩
    rw [← hF] at HC HH0
    have HFE := hide hF
    have hz2 : (F != 0) = true := by simp; exact HH0.out
    clear hh hF
    go_enter Tryz.func43, Tryz.ntmps43
    go_wp2_with fail
    refine HA.out.mono ?_
    rintro r w1 ⟨av, cv, rfl, hr1, hb1⟩
    have X1 := hide (X0.out.below hb1)
    have B1 := hide (below_next B0.out hb1)
    have R1 := hide hr1
    have hlt := X1.out.lt
    clear hr1 hb1 HA X0 B0
    have HHM := hide (l9Home_any av cv _ _ p w1 R1.out rfl H4.out HRR.out HP.out hpl)
    rw [← HFE.out] at HHM
    go_wp2_with fail
    refine HHM.out.mono ?_
    rintro r w2 ⟨rfl, hb2⟩
    have X2 := hide (X1.out.below hb2)
    have B2 := hide (below_next B1.out hb2)
    have R2 := hide (R1.out.below hb2)
    clear hb2 HHM X1 B1 R1
    go_wp2_with fail
    refine (HST.out F w2 B2.out).mono ?_
    rintro r w9 ⟨av9, cv9, rfl, hG9, hb9⟩
    have G9 := hide hG9
    have B9 := hide (below_next B2.out hb9)
    have hl9 := X2.out.lt
    obtain ⟨⟨t0, t1, t2⟩, t3, t4, t5⟩ := X2.out.below hb9
    clear hG9 hb9
    go_wp2_with fail
    exact bodyPost_ret (v := .agg #[.int .i64 0, .int .i64 F, .slice av9 U.length cv9]) (by simp [results, Tryz.results43, go_sem, t0, t1, t2]) rfl ⟨F, U, MkS.stay HC.out HH0.out, ResG.of hl9 (Nat.le_refl _) rfl G9.out B9.out⟩
end Go.Proofs.YtebgfaohhhgdpaaGreat

namespace Go.Proofs.YtebgfaohhhgdpaaGreat
open Go.RowKit Go.Maps
set_option linter.unusedVariables false
attribute [local go_sem ↓] Go.wp_at_zero Go.wp_at_succ

/-- What a removal replies, by the view. -/
def rmS (T : List En) (p : Bs) : Int := match findE T p with | none => 4 | some e => if e.kind = 2 then (if 0 < (namesE T p).length then 1 else 0) else 0
structure RmS (ls : List (List En)) (T U : List En) (p : Bs) (rep : Int) (V : List En) : Prop where
  no : rmS T p ≠ 0 → rep = rmS T p ∧ V = U
  gone : rmS T p = 0 → findE (allE (ls ++ [restE U p true])) p = none → rep = 0 ∧ V = restE U p true
  white : rmS T p = 0 → findE (allE (ls ++ [restE U p true])) p ≠ none → FillsO U (restE U p true) ⟨p, 3, 0, []⟩ rep V
theorem RmS.stay {ls : List (List En)} {T U : List En} {p : Bs} {q : Int} (h : rmS T p = q) (hq : q ≠ 0) : RmS ls T U p q U := ⟨fun _ => ⟨h.symm, rfl⟩, fun h2 => absurd (h.symm.trans h2) hq, fun h2 => absurd (h.symm.trans h2) hq⟩
theorem right_restE {U : List En} {p : Bs} (h : Right U) (hp : faultP p = 0) : Right (restE U p true) := by
  have h1 := right_rest h hp
  have h2 : restP U p = restE U p true := restP_eq (fun x hx => entFault_zero (h.ent x hx)) hp
  rwa [h2] at h1
set_option maxRecDepth 100000 in
set_option maxHeartbeats 6400000 in
theorem l9Remove_any (a : Option Addr) (c n : Nat) (ls : List (List En)) (u : Option Addr) (uc m : Nat) (U : List En) (p : Bs) (w : World) (h : RdL w a ls) (hn : n = ls.length) (hU : RdE w u U) (hm : m = U.length) (h4 : (ls ++ [U]).length ≤ 4) (hR : ∀ es ∈ ls ++ [U], Right es) (hp : faultP p = 0) (hpl : p.length ≤ 1048576) :
    Calls Tryz.prog 40 #[.slice a n c, .slice u m uc, .string (str p)] w fun r w' => ∃ rep V, RmS ls (allE (ls ++ [U])) U p rep V ∧ ResG 0 rep V w r w' := by
  subst hn
  subst hm
  have hRU : Right U := hR U (by simp)
  have hl4 : ls.length ≤ 4 := by rw [List.length_append] at h4; omega
  have hUl := hRU.len
  have HUs := hide (right_small hRU)
  have HP := hide hp
  have X0 := hide (Box3.new w (.int .i64 0) (.int .i64 0) (.slice none 0 0) 32)
  have B0 := hide (below_alloc w (.cells #[.int .i64 0, .int .i64 0, .slice none 0 0] 32))
  have HA := hide (l9All_any a c ls.length ls u uc U.length U _ (h.below B0.out) rfl (by omega) (hU.below B0.out) rfl)
  have HU := hide hU
  have HST := hide (fun (q : Int) v (hv : Below w.heap.size w v) => l9Reply_any u uc U.length U q v (HU.out.below hv) rfl (by omega) HUs.out)
  have HRR := hide hR
  have H4 := hide h4
  have HRD := hide h
  have hRr := right_restE hRU hp
  have HRS := hide (right_small hRr)
  have hrl := hRr.len
  have H42 := hide (show (ls ++ [restE U p true]).length ≤ 4 by rw [List.length_append] at h4 ⊢; simpa using h4)
  have HR2 := hide (show ∀ es ∈ ls ++ [restE U p true], Right es from fun es he => by
    rcases List.mem_append.1 he with he | he
    · exact hR es (List.mem_append_left _ he)
    · simp at he; subst he; exact hRr)
  have HWO := hide (fun v (hv : Below w.heap.size w v) => l4Without_any u uc U.length U p true v (hU.below hv) rfl (by omega) HUs.out hpl)
  clear hRr
  clear h hU hR hRU hp h4
  obtain ⟨al, hal⟩ : ∃ al, al = ls ++ [U] := ⟨_, rfl⟩
  rw [← hal] at HA HRR H4 ⊢
  have HALL := hide hal
  clear hal
  cases ha : findE (allE al) p with
  | none =>
    have HC := hide (show rmS (allE al) p = 4 by simp [rmS, ha])
    go_enter Tryz.func40, Tryz.ntmps40
    go_wp2_with fail
    refine HA.out.mono ?_
    rintro r w1 ⟨av, cv, rfl, hr1, hb1⟩
    have X1 := hide (X0.out.below hb1)
    have B1 := hide (below_next B0.out hb1)
    have R1 := hide hr1
    have hlt := X1.out.lt
    clear hr1 hb1 HA X0 B0
    have X2 := X1
    have B2 := B1
    have R2 := R1
    clear X1 B1 R1
    have HLK := hide (l8Look_no av cv _ _ p w1 R2.out rfl H4.out HRR.out HP.out hpl ha)
    clear ha
    go_wp2_with fail
    refine HLK.out.mono ?_
    rintro r w3 ⟨rfl, hb3⟩
    have A3 := hide (below_alloc w3 (.cells #[.string ⟨#[]⟩, .int .i64 0, .int .i64 0, .slice none 0 0] 53))
    have B3 := hide (below_next B2.out (below_next hb3 A3.out))
    have X3 := hide (X2.out.below (below_next hb3 A3.out))
    have R3 := hide (R2.out.below (below_next hb3 A3.out))
    obtain ⟨f0, f1, f2, f3⟩ := Four.new w3 (.string ⟨#[]⟩) (.int .i64 0) (.int .i64 0) (.slice none 0 0) 53
    clear hb3 A3 HLK X2 B2 R2
    go_wp2_with fail
    clear f0 f1 f2 f3
    generalize w3.alloc (.cells #[.string ⟨#[]⟩, .int .i64 0, .int .i64 0, .slice none 0 0] 53) = W3 at *
    refine (HST.out 4 W3 B3.out).mono ?_
    rintro r w9 ⟨av9, cv9, rfl, hG9, hb9⟩
    have G9 := hide hG9
    have B9 := hide (below_next B3.out hb9)
    have hl9 := X3.out.lt
    obtain ⟨⟨t0, t1, t2⟩, t3, t4, t5⟩ := X3.out.below hb9
    clear hG9 hb9
    go_wp2_with fail
    exact bodyPost_ret (v := .agg #[.int .i64 0, .int .i64 4, .slice av9 U.length cv9]) (by simp [results, Tryz.results40, go_sem, t0, t1, t2]) rfl ⟨4, U, RmS.stay HC.out (by decide), ResG.of hl9 (Nat.le_refl _) rfl G9.out B9.out⟩
  | some e =>
    by_cases hk : e.kind = 2
    · have hk2 : (e.kind == 2) = true := by simpa using hk
      by_cases hn : 0 < (namesE (allE al) p).length
      · have HC := hide (show rmS (allE al) p = 1 by simp only [rmS, ha]; rw [if_pos hk, if_pos hn])
        have hn2 : (0 : Int) < ((namesE (allE al) p).length : Int) := by omega
        clear hk hn
        go_enter Tryz.func40, Tryz.ntmps40
        go_wp2_with fail
        refine HA.out.mono ?_
        rintro r w1 ⟨av, cv, rfl, hr1, hb1⟩
        have X1 := hide (X0.out.below hb1)
        have B1 := hide (below_next B0.out hb1)
        have R1 := hide hr1
        have hlt := X1.out.lt
        clear hr1 hb1 HA X0 B0
        have X2 := X1
        have B2 := B1
        have R2 := R1
        clear X1 B1 R1
        have HLK := hide (l8Look_yes av cv _ _ p w1 R2.out rfl H4.out HRR.out HP.out hpl e ha)
        clear ha
        go_wp2_with fail
        refine HLK.out.mono ?_
        rintro r w3 ⟨x, xc, rfl, -, hb3⟩
        have A3 := hide (below_alloc w3 (.cells #[.string (str e.path), .int .i64 e.kind, .int .i64 e.size, .slice x e.chunks.length xc] 53))
        have B3 := hide (below_next B2.out (below_next hb3 A3.out))
        have X3 := hide (X2.out.below (below_next hb3 A3.out))
        have R3 := hide (R2.out.below (below_next hb3 A3.out))
        obtain ⟨f0, f1, f2, f3⟩ := Four.new w3 (.string (str e.path)) (.int .i64 e.kind) (.int .i64 e.size) (.slice x e.chunks.length xc) 53
        clear hb3 A3 HLK X2 B2 R2
        go_wp2_with fail
        clear f0 f1 f2 f3
        generalize w3.alloc (.cells #[.string (str e.path), .int .i64 e.kind, .int .i64 e.size, .slice x e.chunks.length xc] 53) = W3 at *
        have HNM := hide (l8Names_any av cv _ _ p W3 R3.out rfl H4.out HRR.out (.inr HP.out) hpl)
        refine HNM.out.mono ?_
        rintro r w4 ⟨nv, nc, rfl, -, hb4⟩
        have X4 := hide (X3.out.below hb4)
        have B4 := hide (below_next B3.out hb4)
        clear hb4 HNM X3 B3 R3
        generalize (namesE (allE al) p).length = NL at *
        go_wp2_with fail
        refine (HST.out 1 w4 B4.out).mono ?_
        rintro r w9 ⟨av9, cv9, rfl, hG9, hb9⟩
        have G9 := hide hG9
        have B9 := hide (below_next B4.out hb9)
        have hl9 := X4.out.lt
        obtain ⟨⟨t0, t1, t2⟩, t3, t4, t5⟩ := X4.out.below hb9
        clear hG9 hb9
        go_wp2_with fail
        exact bodyPost_ret (v := .agg #[.int .i64 0, .int .i64 1, .slice av9 U.length cv9]) (by simp [results, Tryz.results40, go_sem, t0, t1, t2]) rfl ⟨1, U, RmS.stay HC.out (by decide), ResG.of hl9 (Nat.le_refl _) rfl G9.out B9.out⟩
      · have HC := hide (show rmS (allE al) p = 0 by simp only [rmS, ha]; rw [if_pos hk, if_neg hn])
        have hn2 : ¬ (0 : Int) < ((namesE (allE al) p).length : Int) := by omega
        clear hk hn
        cases hs2 : findE (allE (ls ++ [restE U p true])) p with
        | none =>
          have HCP0 : Hid (RmS ls (allE al) U p 0 (restE U p true)) := hide ⟨fun h => absurd HC.out h, fun _ _ => ⟨rfl, rfl⟩, fun _ h => absurd hs2 h⟩
          have HE2 := hide hs2
          clear hs2
          obtain ⟨RU, hRU⟩ : ∃ RU, RU = restE U p true := ⟨_, rfl⟩
          have HCP : Hid (RmS ls (allE al) U p 0 RU) := hide (by rw [hRU]; exact HCP0.out)
          clear HCP0
          rw [← hRU] at HRS hrl H42 HR2 HWO HE2
          clear hRU
          obtain ⟨al2, hal2⟩ : ∃ al2, al2 = ls ++ [RU] := ⟨_, rfl⟩
          rw [← hal2] at H42 HR2 HE2
          have HAL2 := hide hal2
          clear hal2
          go_enter Tryz.func40, Tryz.ntmps40
          go_wp2_with fail
          refine HA.out.mono ?_
          rintro r w1 ⟨av, cv, rfl, hr1, hb1⟩
          have X1 := hide (X0.out.below hb1)
          have B1 := hide (below_next B0.out hb1)
          have R1 := hide hr1
          have hlt := X1.out.lt
          clear hr1 hb1 HA X0 B0
          have X2 := X1
          have B2 := B1
          have R2 := R1
          clear X1 B1 R1
          have HLK := hide (l8Look_yes av cv _ _ p w1 R2.out rfl H4.out HRR.out HP.out hpl e ha)
          clear ha
          go_wp2_with fail
          refine HLK.out.mono ?_
          rintro r w3 ⟨x, xc, rfl, -, hb3⟩
          have A3 := hide (below_alloc w3 (.cells #[.string (str e.path), .int .i64 e.kind, .int .i64 e.size, .slice x e.chunks.length xc] 53))
          have B3 := hide (below_next B2.out (below_next hb3 A3.out))
          have X3 := hide (X2.out.below (below_next hb3 A3.out))
          have R3 := hide (R2.out.below (below_next hb3 A3.out))
          obtain ⟨f0, f1, f2, f3⟩ := Four.new w3 (.string (str e.path)) (.int .i64 e.kind) (.int .i64 e.size) (.slice x e.chunks.length xc) 53
          clear hb3 A3 HLK X2 B2 R2
          go_wp2_with fail
          clear f0 f1 f2 f3
          generalize w3.alloc (.cells #[.string (str e.path), .int .i64 e.kind, .int .i64 e.size, .slice x e.chunks.length xc] 53) = W3 at *
          have HNM := hide (l8Names_any av cv _ _ p W3 R3.out rfl H4.out HRR.out (.inr HP.out) hpl)
          refine HNM.out.mono ?_
          rintro r w4 ⟨nv, nc, rfl, -, hb4⟩
          have X4 := hide (X3.out.below hb4)
          have B4 := hide (below_next B3.out hb4)
          clear hb4 HNM X3 B3 R3
          generalize (namesE (allE al) p).length = NL at *
          go_wp2_with fail
          have hxW := X4.out.lt
          refine (HWO.out w4 B4.out).mono ?_
          rintro r w6 ⟨g6, c6, rfl, hG6, hb6⟩
          have X6 := hide (X4.out.below hb6)
          have B6 := hide (below_next B4.out hb6)
          have G6 := hide (GW.of hG6)
          have HA6 := hide (l9All_any a c ls.length ls (some ⟨g6, 0, none⟩) c6 RU.length RU w6 (HRD.out.below B6.out) rfl (by omega) hG6.rd rfl)
          rw [← HAL2.out] at HA6
          clear hG6 hb6 HWO
          go_wp2_with fail
          refine HA6.out.mono ?_
          rintro r w7 ⟨av7, cv7, rfl, hr7, hb7⟩
          have X7 := hide (X6.out.below hb7)
          have B7 := hide (below_next B6.out hb7)
          have G7 := hide (G6.out.below hb7)
          have HL7 := hide (l8Look_no av7 cv7 al2.length al2 p w7 hr7 rfl H42.out HR2.out HP.out hpl HE2.out)
          clear hr7 hb7 HA6 X6 B6 G6
          go_wp2_with fail
          refine HL7.out.mono ?_
          rintro r w8 ⟨rfl, hb8⟩
          have A8 := hide (below_next hb8 (below_alloc w8 (.cells #[.string ⟨#[]⟩, .int .i64 0, .int .i64 0, .slice none 0 0] 53)))
          have B8 := hide (below_next B7.out A8.out)
          have G8 := hide (G7.out.below A8.out)
          obtain ⟨⟨t0, t1, t2⟩, t3, t4, t5⟩ := X7.out.below A8.out
          clear hb8 A8 HL7 B7 G7
          go_wp2_with fail
          exact bodyPost_ret (v := .agg #[.int .i64 0, .int .i64 0, .slice (some ⟨g6, 0, none⟩) RU.length c6]) (by simp [results, Tryz.results40, go_sem, t0, t1, t2]) rfl ⟨0, RU, HCP.out, ResG.of (b := w.heap.size) hxW (Nat.le_refl _) rfl G8.out B8.out⟩
        | some e2 =>
          obtain ⟨rep, V, hV⟩ := fills_ex U (restE U p true) ⟨p, 3, 0, []⟩
          have HCP : Hid (RmS ls (allE al) U p rep V) := hide ⟨fun h => absurd HC.out h, fun _ h => absurd (hs2.symm.trans h) (by simp), fun _ _ => hV⟩
          have HE2 := hide hs2
          have HV := hide hV
          clear hV hs2
          obtain ⟨RU, hRU⟩ : ∃ RU, RU = restE U p true := ⟨_, rfl⟩
          rw [← hRU] at HRS hrl H42 HR2 HWO HE2 HV
          clear hRU
          obtain ⟨al2, hal2⟩ : ∃ al2, al2 = ls ++ [RU] := ⟨_, rfl⟩
          rw [← hal2] at H42 HR2 HE2
          have HAL2 := hide hal2
          clear hal2
          go_enter Tryz.func40, Tryz.ntmps40
          go_wp2_with fail
          refine HA.out.mono ?_
          rintro r w1 ⟨av, cv, rfl, hr1, hb1⟩
          have X1 := hide (X0.out.below hb1)
          have B1 := hide (below_next B0.out hb1)
          have R1 := hide hr1
          have hlt := X1.out.lt
          clear hr1 hb1 HA X0 B0
          have X2 := X1
          have B2 := B1
          have R2 := R1
          clear X1 B1 R1
          have HLK := hide (l8Look_yes av cv _ _ p w1 R2.out rfl H4.out HRR.out HP.out hpl e ha)
          clear ha
          go_wp2_with fail
          refine HLK.out.mono ?_
          rintro r w3 ⟨x, xc, rfl, -, hb3⟩
          have A3 := hide (below_alloc w3 (.cells #[.string (str e.path), .int .i64 e.kind, .int .i64 e.size, .slice x e.chunks.length xc] 53))
          have B3 := hide (below_next B2.out (below_next hb3 A3.out))
          have X3 := hide (X2.out.below (below_next hb3 A3.out))
          have R3 := hide (R2.out.below (below_next hb3 A3.out))
          obtain ⟨f0, f1, f2, f3⟩ := Four.new w3 (.string (str e.path)) (.int .i64 e.kind) (.int .i64 e.size) (.slice x e.chunks.length xc) 53
          clear hb3 A3 HLK X2 B2 R2
          go_wp2_with fail
          clear f0 f1 f2 f3
          generalize w3.alloc (.cells #[.string (str e.path), .int .i64 e.kind, .int .i64 e.size, .slice x e.chunks.length xc] 53) = W3 at *
          have HNM := hide (l8Names_any av cv _ _ p W3 R3.out rfl H4.out HRR.out (.inr HP.out) hpl)
          refine HNM.out.mono ?_
          rintro r w4 ⟨nv, nc, rfl, -, hb4⟩
          have X4 := hide (X3.out.below hb4)
          have B4 := hide (below_next B3.out hb4)
          clear hb4 HNM X3 B3 R3
          generalize (namesE (allE al) p).length = NL at *
          go_wp2_with fail
          have hxW := X4.out.lt
          refine (HWO.out w4 B4.out).mono ?_
          rintro r w6 ⟨g6, c6, rfl, hG6, hb6⟩
          have X6 := hide (X4.out.below hb6)
          have B6 := hide (below_next B4.out hb6)
          have G6 := hide (GW.of hG6)
          have HA6 := hide (l9All_any a c ls.length ls (some ⟨g6, 0, none⟩) c6 RU.length RU w6 (HRD.out.below B6.out) rfl (by omega) hG6.rd rfl)
          rw [← HAL2.out] at HA6
          clear hG6 hb6 HWO
          go_wp2_with fail
          refine HA6.out.mono ?_
          rintro r w7 ⟨av7, cv7, rfl, hr7, hb7⟩
          have X7 := hide (X6.out.below hb7)
          have B7 := hide (below_next B6.out hb7)
          have G7 := hide (G6.out.below hb7)
          have HL7 := hide (l8Look_yes av7 cv7 al2.length al2 p w7 hr7 rfl H42.out HR2.out HP.out hpl e2 HE2.out)
          clear hr7 hb7 HA6 X6 B6 G6
          go_wp2_with fail
          refine HL7.out.mono ?_
          rintro r w8 ⟨x8, xc8, rfl, -, hb8⟩
          have A8 := hide (below_next hb8 (below_alloc w8 (.cells #[.string (str e2.path), .int .i64 e2.kind, .int .i64 e2.size, .slice x8 e2.chunks.length xc8] 53)))
          have X8 := hide (X7.out.below A8.out)
          have B8 := hide (below_next B7.out A8.out)
          have G8 := hide (G7.out.below A8.out)
          clear hb8 A8 HL7 X7 B7 G7
          go_wp2_with fail
          generalize w8.alloc (.cells #[.string (str e2.path), .int .i64 e2.kind, .int .i64 e2.size, .slice x8 e2.chunks.length xc8] 53) = W8 at *
          have HFL := hide (l9Fill_any u uc U.length U (some ⟨g6, 0, none⟩) c6 RU.length RU ⟨p, 3, 0, []⟩ none 0 0 W8 (HU.out.below B8.out) rfl (by omega) HUs.out G8.out.rd rfl (by omega) HRS.out HP.out rfl (fun hz => absurd rfl hz) hpl (by simp) rep V HV.out)
          refine HFL.out.mono ?_
          rintro r w9 ⟨av9, cv9, rfl, hG9, hb9⟩
          have G9 := hide hG9
          have B9 := hide (below_next B8.out hb9)
          have hl9 := X8.out.lt
          obtain ⟨⟨t0, t1, t2⟩, t3, t4, t5⟩ := X8.out.below hb9
          clear hG9 hb9
          go_wp2_with fail
          exact bodyPost_ret (v := .agg #[.int .i64 0, .int .i64 rep, .slice av9 V.length cv9]) (by simp [results, Tryz.results40, go_sem, t0, t1, t2]) rfl ⟨rep, V, HCP.out, ResG.of hl9 (Nat.le_refl _) rfl G9.out B9.out⟩
    · have HC := hide (show rmS (allE al) p = 0 by simp only [rmS, ha]; rw [if_neg hk])
      have hk2 : (e.kind == 2) = false := by simpa using hk
      clear hk
      cases hs2 : findE (allE (ls ++ [restE U p true])) p with
      | none =>
        have HCP0 : Hid (RmS ls (allE al) U p 0 (restE U p true)) := hide ⟨fun h => absurd HC.out h, fun _ _ => ⟨rfl, rfl⟩, fun _ h => absurd hs2 h⟩
        have HE2 := hide hs2
        clear hs2
        obtain ⟨RU, hRU⟩ : ∃ RU, RU = restE U p true := ⟨_, rfl⟩
        have HCP : Hid (RmS ls (allE al) U p 0 RU) := hide (by rw [hRU]; exact HCP0.out)
        clear HCP0
        rw [← hRU] at HRS hrl H42 HR2 HWO HE2
        clear hRU
        obtain ⟨al2, hal2⟩ : ∃ al2, al2 = ls ++ [RU] := ⟨_, rfl⟩
        rw [← hal2] at H42 HR2 HE2
        have HAL2 := hide hal2
        clear hal2
        go_enter Tryz.func40, Tryz.ntmps40
        go_wp2_with fail
        refine HA.out.mono ?_
        rintro r w1 ⟨av, cv, rfl, hr1, hb1⟩
        have X1 := hide (X0.out.below hb1)
        have B1 := hide (below_next B0.out hb1)
        have R1 := hide hr1
        have hlt := X1.out.lt
        clear hr1 hb1 HA X0 B0
        have X2 := X1
        have B2 := B1
        have R2 := R1
        clear X1 B1 R1
        have HLK := hide (l8Look_yes av cv _ _ p w1 R2.out rfl H4.out HRR.out HP.out hpl e ha)
        clear ha
        go_wp2_with fail
        refine HLK.out.mono ?_
        rintro r w3 ⟨x, xc, rfl, -, hb3⟩
        have A3 := hide (below_alloc w3 (.cells #[.string (str e.path), .int .i64 e.kind, .int .i64 e.size, .slice x e.chunks.length xc] 53))
        have B3 := hide (below_next B2.out (below_next hb3 A3.out))
        have X3 := hide (X2.out.below (below_next hb3 A3.out))
        have R3 := hide (R2.out.below (below_next hb3 A3.out))
        obtain ⟨f0, f1, f2, f3⟩ := Four.new w3 (.string (str e.path)) (.int .i64 e.kind) (.int .i64 e.size) (.slice x e.chunks.length xc) 53
        clear hb3 A3 HLK X2 B2 R2
        go_wp2_with fail
        clear f0 f1 f2 f3
        generalize w3.alloc (.cells #[.string (str e.path), .int .i64 e.kind, .int .i64 e.size, .slice x e.chunks.length xc] 53) = W3 at *
        have hxW := X3.out.lt
        refine (HWO.out W3 B3.out).mono ?_
        rintro r w6 ⟨g6, c6, rfl, hG6, hb6⟩
        have X6 := hide (X3.out.below hb6)
        have B6 := hide (below_next B3.out hb6)
        have G6 := hide (GW.of hG6)
        have HA6 := hide (l9All_any a c ls.length ls (some ⟨g6, 0, none⟩) c6 RU.length RU w6 (HRD.out.below B6.out) rfl (by omega) hG6.rd rfl)
        rw [← HAL2.out] at HA6
        clear hG6 hb6 HWO
        go_wp2_with fail
        refine HA6.out.mono ?_
        rintro r w7 ⟨av7, cv7, rfl, hr7, hb7⟩
        have X7 := hide (X6.out.below hb7)
        have B7 := hide (below_next B6.out hb7)
        have G7 := hide (G6.out.below hb7)
        have HL7 := hide (l8Look_no av7 cv7 al2.length al2 p w7 hr7 rfl H42.out HR2.out HP.out hpl HE2.out)
        clear hr7 hb7 HA6 X6 B6 G6
        go_wp2_with fail
        refine HL7.out.mono ?_
        rintro r w8 ⟨rfl, hb8⟩
        have A8 := hide (below_next hb8 (below_alloc w8 (.cells #[.string ⟨#[]⟩, .int .i64 0, .int .i64 0, .slice none 0 0] 53)))
        have B8 := hide (below_next B7.out A8.out)
        have G8 := hide (G7.out.below A8.out)
        obtain ⟨⟨t0, t1, t2⟩, t3, t4, t5⟩ := X7.out.below A8.out
        clear hb8 A8 HL7 B7 G7
        go_wp2_with fail
        exact bodyPost_ret (v := .agg #[.int .i64 0, .int .i64 0, .slice (some ⟨g6, 0, none⟩) RU.length c6]) (by simp [results, Tryz.results40, go_sem, t0, t1, t2]) rfl ⟨0, RU, HCP.out, ResG.of (b := w.heap.size) hxW (Nat.le_refl _) rfl G8.out B8.out⟩
      | some e2 =>
        obtain ⟨rep, V, hV⟩ := fills_ex U (restE U p true) ⟨p, 3, 0, []⟩
        have HCP : Hid (RmS ls (allE al) U p rep V) := hide ⟨fun h => absurd HC.out h, fun _ h => absurd (hs2.symm.trans h) (by simp), fun _ _ => hV⟩
        have HE2 := hide hs2
        have HV := hide hV
        clear hV hs2
        obtain ⟨RU, hRU⟩ : ∃ RU, RU = restE U p true := ⟨_, rfl⟩
        rw [← hRU] at HRS hrl H42 HR2 HWO HE2 HV
        clear hRU
        obtain ⟨al2, hal2⟩ : ∃ al2, al2 = ls ++ [RU] := ⟨_, rfl⟩
        rw [← hal2] at H42 HR2 HE2
        have HAL2 := hide hal2
        clear hal2
        go_enter Tryz.func40, Tryz.ntmps40
        go_wp2_with fail
        refine HA.out.mono ?_
        rintro r w1 ⟨av, cv, rfl, hr1, hb1⟩
        have X1 := hide (X0.out.below hb1)
        have B1 := hide (below_next B0.out hb1)
        have R1 := hide hr1
        have hlt := X1.out.lt
        clear hr1 hb1 HA X0 B0
        have X2 := X1
        have B2 := B1
        have R2 := R1
        clear X1 B1 R1
        have HLK := hide (l8Look_yes av cv _ _ p w1 R2.out rfl H4.out HRR.out HP.out hpl e ha)
        clear ha
        go_wp2_with fail
        refine HLK.out.mono ?_
        rintro r w3 ⟨x, xc, rfl, -, hb3⟩
        have A3 := hide (below_alloc w3 (.cells #[.string (str e.path), .int .i64 e.kind, .int .i64 e.size, .slice x e.chunks.length xc] 53))
        have B3 := hide (below_next B2.out (below_next hb3 A3.out))
        have X3 := hide (X2.out.below (below_next hb3 A3.out))
        have R3 := hide (R2.out.below (below_next hb3 A3.out))
        obtain ⟨f0, f1, f2, f3⟩ := Four.new w3 (.string (str e.path)) (.int .i64 e.kind) (.int .i64 e.size) (.slice x e.chunks.length xc) 53
        clear hb3 A3 HLK X2 B2 R2
        go_wp2_with fail
        clear f0 f1 f2 f3
        generalize w3.alloc (.cells #[.string (str e.path), .int .i64 e.kind, .int .i64 e.size, .slice x e.chunks.length xc] 53) = W3 at *
        have hxW := X3.out.lt
        refine (HWO.out W3 B3.out).mono ?_
        rintro r w6 ⟨g6, c6, rfl, hG6, hb6⟩
        have X6 := hide (X3.out.below hb6)
        have B6 := hide (below_next B3.out hb6)
        have G6 := hide (GW.of hG6)
        have HA6 := hide (l9All_any a c ls.length ls (some ⟨g6, 0, none⟩) c6 RU.length RU w6 (HRD.out.below B6.out) rfl (by omega) hG6.rd rfl)
        rw [← HAL2.out] at HA6
        clear hG6 hb6 HWO
        go_wp2_with fail
        refine HA6.out.mono ?_
        rintro r w7 ⟨av7, cv7, rfl, hr7, hb7⟩
        have X7 := hide (X6.out.below hb7)
        have B7 := hide (below_next B6.out hb7)
        have G7 := hide (G6.out.below hb7)
        have HL7 := hide (l8Look_yes av7 cv7 al2.length al2 p w7 hr7 rfl H42.out HR2.out HP.out hpl e2 HE2.out)
        clear hr7 hb7 HA6 X6 B6 G6
        go_wp2_with fail
        refine HL7.out.mono ?_
        rintro r w8 ⟨x8, xc8, rfl, -, hb8⟩
        have A8 := hide (below_next hb8 (below_alloc w8 (.cells #[.string (str e2.path), .int .i64 e2.kind, .int .i64 e2.size, .slice x8 e2.chunks.length xc8] 53)))
        have X8 := hide (X7.out.below A8.out)
        have B8 := hide (below_next B7.out A8.out)
        have G8 := hide (G7.out.below A8.out)
        clear hb8 A8 HL7 X7 B7 G7
        go_wp2_with fail
        generalize w8.alloc (.cells #[.string (str e2.path), .int .i64 e2.kind, .int .i64 e2.size, .slice x8 e2.chunks.length xc8] 53) = W8 at *
        have HFL := hide (l9Fill_any u uc U.length U (some ⟨g6, 0, none⟩) c6 RU.length RU ⟨p, 3, 0, []⟩ none 0 0 W8 (HU.out.below B8.out) rfl (by omega) HUs.out G8.out.rd rfl (by omega) HRS.out HP.out rfl (fun hz => absurd rfl hz) hpl (by simp) rep V HV.out)
        refine HFL.out.mono ?_
        rintro r w9 ⟨av9, cv9, rfl, hG9, hb9⟩
        have G9 := hide hG9
        have B9 := hide (below_next B8.out hb9)
        have hl9 := X8.out.lt
        obtain ⟨⟨t0, t1, t2⟩, t3, t4, t5⟩ := X8.out.below hb9
        clear hG9 hb9
        go_wp2_with fail
        exact bodyPost_ret (v := .agg #[.int .i64 0, .int .i64 rep, .slice av9 V.length cv9]) (by simp [results, Tryz.results40, go_sem, t0, t1, t2]) rfl ⟨rep, V, HCP.out, ResG.of hl9 (Nat.le_refl _) rfl G9.out B9.out⟩
end Go.Proofs.YtebgfaohhhgdpaaGreat

namespace Go.Proofs.YtebgfaohhhgdpaaGreat
open Go.RowKit Go.Maps
set_option linter.unusedVariables false
attribute [local go_sem ↓] Go.wp_at_zero Go.wp_at_succ

theorem smallL_snoc {ls : List (List En)} {U : List En} (h : SmallL ls) (hl : U.length ≤ 1000000) (hs : SmallE U) : SmallL (ls ++ [U]) := fun es he => by
  rcases List.mem_append.1 he with he | he
  · exact h es he
  · simp at he; subst he; exact ⟨hl, hs⟩
set_option maxRecDepth 100000 in
set_option maxHeartbeats 1600000 in
theorem implViewOver_any (a : Option Addr) (c n : Nat) (ls : List (List En)) (u : Option Addr) (uc m : Nat) (U : List En) (w : World) (h : RdL w a ls) (hn : n = ls.length) (hl : ls.length ≤ 1000000) (hs : SmallL ls) (hU : RdE w u U) (hm : m = U.length) (hUl : U.length ≤ 1000000) (hUs : SmallE U) :
    Calls Tryz.prog 7 #[.slice a n c, .slice u m uc] w (ResT (malC (ls ++ [U])) 0 (malL (ls ++ [U])) w) := by
  subst hn
  subst hm
  have X0 := hide (Box3.new w (.int .i64 0) (.int .i64 0) (.slice none 0 0) 29)
  have B0 := hide (below_alloc w (.cells #[.int .i64 0, .int .i64 0, .slice none 0 0] 29))
  have HW := hide (withUpper_any a c ls.length ls u uc U.length U _ (h.below B0.out) rfl hl (hU.below B0.out) rfl)
  have HSL := hide (smallL_snoc hs hUl hUs)
  have HLn := hide (show (ls ++ [U]).length ≤ 1048576 by rw [List.length_append]; simp; omega)
  clear h hU hs hUs
  generalize ls ++ [U] = al at *
  go_enter Tryz.func7, Tryz.ntmps7
  go_wp2_with fail
  refine HW.out.mono ?_
  rintro r w1 ⟨av, cv, rfl, hr1, hb1⟩
  have X1 := hide (X0.out.below hb1)
  have B1 := hide (below_next B0.out hb1)
  have HMA := hide (implMergeAll_any av cv al.length al w1 hr1 rfl HLn.out HSL.out)
  have hlt := X1.out.lt
  clear hr1 hb1 HW
  go_wp2_with fail
  refine HMA.out.mono ?_
  rintro r w2 ⟨tv, tc, rfl, hG2, hb2⟩
  have G2 := hide hG2
  have B2 := hide (below_next B1.out hb2)
  obtain ⟨⟨t0, t1, t2⟩, t3, t4, t5⟩ := X1.out.below hb2
  clear hG2 hb2 HMA
  generalize malC al = C at *
  generalize malL al = T at *
  go_wp2_with fail
  exact bodyPost_ret (v := .agg #[.int .i64 C, .int .i64 0, .slice tv T.length tc]) (by simp [results, Tryz.results7, go_sem, t0, t1, t2]) rfl (ResT.of hlt (Nat.le_refl _) rfl G2.out B2.out)
/-- What CopyUp answers: a code, a reply, a layer. -/
structure CpyOf (ls : List (List En)) (U : List En) (p : Bs) (q rep : Int) (V : List En) : Prop where
  bad : askL (ls ++ [U]) p ≠ 0 → q = askL (ls ++ [U]) p ∧ rep = 0 ∧ V = []
  none : askL (ls ++ [U]) p = 0 → plcC (ls ++ [U]) p ≠ 0 → q = 0 ∧ rep = plcC (ls ++ [U]) p ∧ V = U
  there : askL (ls ++ [U]) p = 0 → plcC (ls ++ [U]) p = 0 → findCodeP U p = 0 → q = 0 ∧ rep = 0 ∧ V = U
  copy : askL (ls ++ [U]) p = 0 → plcC (ls ++ [U]) p = 0 → findCodeP U p ≠ 0 → ∀ e, lookL (ls ++ [U]) p = [e] → q = 0 ∧ rep = wrtR U e ∧ V = wrtL U e
set_option maxRecDepth 100000 in
set_option maxHeartbeats 6400000 in
theorem implCopyUp_any (a : Option Addr) (c n : Nat) (ls : List (List En)) (u : Option Addr) (uc m : Nat) (U : List En) (p : Bs) (w : World) (h : RdL w a ls) (hn : n = ls.length) (hl : ls.length ≤ 1000000) (hs : SmallL ls) (hU : RdE w u U) (hm : m = U.length) (hUl : U.length ≤ 1000000) (hUs : SmallE U) (hpl : p.length ≤ 1048576) :
    Calls Tryz.prog 21 #[.slice a n c, .slice u m uc, .string (str p)] w fun r w' => ∃ q rep V, CpyOf ls U p q rep V ∧ ResG q rep V w r w' := by
  subst hn
  subst hm
  have X0 := hide (Box3.new w (.int .i64 0) (.int .i64 0) (.slice none 0 0) 32)
  have B0 := hide (below_alloc w (.cells #[.int .i64 0, .int .i64 0, .slice none 0 0] 32))
  have HW := hide (withUpper_any a c ls.length ls u uc U.length U _ (h.below B0.out) rfl hl (hU.below B0.out) rfl)
  have HSL := hide (smallL_snoc hs hUl hUs)
  have HLn := hide (show (ls ++ [U]).length ≤ 1048576 by rw [List.length_append]; simp; omega)
  have HU := hide hU
  have HUs := hide hUs
  have hfl : ∀ (w : World) (F : Int) (v : Value), (Instr.field 42 (.agg #[.int .i64 F, v]) 0).run Tryz.prog w = .ok (.int .i64 F) w := fun _ _ _ => by kernel_rfl
  clear h hU hs hUs
  have HAL := hide (show ls ++ [U] = ls ++ [U] from rfl)
  obtain ⟨al, hal⟩ : ∃ al, al = ls ++ [U] := ⟨_, rfl⟩
  rw [← hal] at HW HSL HLn
  have HALL := hide hal
  clear hal HAL
  go_enter Tryz.func21, Tryz.ntmps21
  go_wp2_with fail
  refine HW.out.mono ?_
  rintro r w1 ⟨av, cv, rfl, hr1, hb1⟩
  have X1 := hide (X0.out.below hb1)
  have B1 := hide (below_next B0.out hb1)
  have R1 := hide hr1
  have hlt := X1.out.lt
  have HAS := hide (implAskL_any av cv al.length al p w1 hr1 rfl HLn.out HSL.out hpl)
  clear hr1 hb1 HW X0 B0
  by_cases hz : askL al p = 0
  · obtain ⟨h4, hRs, hp⟩ := askL_right hz
    have HRU := hide (show Right U from hRs U (by rw [HALL.out]; simp))
    have HZ := hide hz
    have HP := hide hp
    rw [hz] at HAS
    clear hz hRs hp
    go_wp2_with fail
    refine HAS.out.mono ?_
    rintro r w2 ⟨rfl, hb2⟩
    have X2 := hide (X1.out.below hb2)
    have B2 := hide (below_next B1.out hb2)
    have HLO := hide (implLookOver_any av cv al.length al p w2 (R1.out.below hb2) rfl HLn.out HSL.out hpl)
    clear hb2 HAS X1 B1 R1
    go_wp2_with fail
    refine HLO.out.mono ?_
    rintro r w3 ⟨lv, lc, rfl, hG3, hb3⟩
    have A3 := hide (below_alloc w3 (.cells #[.int .i64 (plcC al p), .slice lv (lookL al p).length lc] 42))
    have T3 := hide (Box.new w3 (.int .i64 (plcC al p)) (.slice lv (lookL al p).length lc) 42)
    have X3 := hide (X2.out.below (below_next hb3 A3.out))
    have B3 := hide (below_next B2.out (below_next hb3 A3.out))
    have R3 := hide (hG3.rd.below A3.out)
    clear hG3 hb3 HLO X2 B2 A3
    have HST := hide (fun (q : Int) v (hv : Below w.heap.size w v) => stays_any u uc U.length U q v (HU.out.below hv) rfl (by omega) HUs.out)
    have HEA : Hid (∀ v : World, Below w.heap.size w v → Calls Tryz.prog 23 #[.slice u U.length uc, .string (str p)] v fun r w' => ∃ lv ln lc, r = .returned (.agg #[.int .i64 (findCodeP U p), .slice lv ln lc]) ∧ Below v.heap.size v w') := hide (fun v hv => (implEntryAt_any u uc U.length U p v (HU.out.below hv) rfl (by omega) HUs.out hpl).mono (fun r w' ⟨lv, lc, h2, _, h4⟩ => ⟨lv, _, lc, h2, h4⟩))
    by_cases hc : plcC al p = 0
    · obtain ⟨e, hfe, hlk⟩ := lookL_one hc
      have HC := hide hc
      have HLK := hide hlk
      rw [hc, hlk] at T3 X3 B3 R3 ⊢
      simp only [List.length_singleton] at T3 X3 B3 R3 ⊢
      obtain ⟨yb, yo, e', y, yc, rfl, hyb, hye, y0, y1, y2, y3, hyr⟩ := R3.out.at (k := 0) (by simp)
      simp only [List.getElem?_cons_zero, Option.some.injEq] at hye
      subst hye
      simp only [Nat.zero_mul, Nat.add_zero] at y0 y1 y2 y3
      have hfaT := all_fit (rights_fit (layersP_zero.1 (ask_zero HZ.out).1).2)
      have hem := find_mem hfe
      have hep : e.path = p := hem.2
      have hefa := hfaT.fit.ent e hem.1
      have hesm := hfaT.fit.small e hem.1
      have HYR := hide hyr
      have HEP := hide (show faultP e.path = 0 from by rw [hep]; exact HP.out)
      have KY : Hid (∀ W : World, Below (w3.alloc (.cells #[.int .i64 0, .slice (some ⟨yb, yo, none⟩) 1 lc] 42)).heap.size (w3.alloc (.cells #[.int .i64 0, .slice (some ⟨yb, yo, none⟩) 1 lc] 42)) W → (W.cell? ⟨yb, yo, none⟩ = some (.string (str e.path)) ∧ W.cell? ⟨yb, yo + 1, none⟩ = some (.int .i64 e.kind) ∧ W.cell? ⟨yb, yo + 2, none⟩ = some (.int .i64 e.size) ∧ W.cell? ⟨yb, yo + 3, none⟩ = some (.slice y e.chunks.length yc)) ∧ Reads .i64 W y e.chunks) := hide (fun W hW => ⟨⟨(hW.cell (p := ⟨yb, yo, none⟩) hyb).trans y0, (hW.cell (p := ⟨yb, yo + 1, none⟩) hyb).trans y1, (hW.cell (p := ⟨yb, yo + 2, none⟩) hyb).trans y2, (hW.cell (p := ⟨yb, yo + 3, none⟩) hyb).trans y3⟩, HYR.out.below hW⟩)
      have HEPP := hide hep
      clear hc hfe hlk hyr y0 y1 y2 y3 hfaT hem hefa hep
      obtain ⟨⟨s0, s1⟩, s2, s3⟩ := T3.out
      obtain ⟨⟨t0, t1, t2⟩, t3, t4, t5⟩ := X3.out
      go_wp2_with fail
      clear s0 s1 s2 s3 t0 t1 t2 t3 t4 t5
      generalize w3.alloc (.cells #[.int .i64 0, .slice (some ⟨yb, yo, none⟩) 1 lc] 42) = W3 at *
      generalize w3.heap.size = b3 at *
      refine (HEA.out W3 B3.out).mono ?_
      rintro r w4 ⟨lv4, ln4, lc4, rfl, hb4⟩
      have X4 := hide (X3.out.below hb4)
      have T4 := hide (T3.out.below hb4)
      have B4 := hide (below_next B3.out hb4)
      have KY4 := hide (KY.out w4 hb4)
      clear hb4 X3 T3 B3 HEA
      obtain ⟨⟨s0, s1⟩, s2, s3⟩ := T4.out
      obtain ⟨⟨t0, t1, t2⟩, t3, t4, t5⟩ := X4.out
      obtain ⟨⟨y0, y1, y2, y3⟩, -⟩ := KY4.out
      by_cases hfc : findCodeP U p = 0
      · have HFC := hide hfc
        rw [hfc]
        clear hfc
        go_wp2_with fail
        clear s0 s1 s2 s3 t0 t1 t2 t3 t4 t5 y0 y1 y2 y3
        refine (HST.out 0 w4 B4.out).mono ?_
        rintro r w5 ⟨av5, cv5, rfl, hG5, hb5⟩
        have G5 := hide hG5
        have B5 := hide (below_next B4.out hb5)
        have hl4 := X4.out.lt
        obtain ⟨⟨t0, t1, t2⟩, t3, t4, t5⟩ := X4.out.below hb5
        clear hG5 hb5
        go_wp2_with fail
        refine bodyPost_ret (v := .agg #[.int .i64 0, .int .i64 0, .slice av5 U.length cv5]) (by simp [results, Tryz.results21, go_sem, t0, t1, t2]) rfl ⟨0, 0, U, ?_, ResG.of hl4 (Nat.le_refl _) rfl G5.out B5.out⟩
        rw [HALL.out] at HZ HC
        exact ⟨fun h => absurd HZ.out h, fun _ h => absurd HC.out h, fun _ _ _ => ⟨rfl, rfl, rfl⟩, fun _ _ h => absurd HFC.out h⟩
      · have HFC := hide hfc
        have hf2 : (findCodeP U p == 0) = false := by simpa using hfc
        have HCP : Hid (CpyOf ls U p 0 (wrtR U e) (wrtL U e)) := hide (by
          have z1 := HZ.out
          have z2 := HC.out
          have z3 := HLK.out
          rw [HALL.out] at z1 z2 z3
          exact ⟨fun h => absurd z1 h, fun _ h => absurd z2 h, fun _ _ h => absurd h hfc, fun _ _ _ e' he' => by rw [z3] at he'; cases he'; exact ⟨rfl, rfl, rfl⟩⟩)
        generalize findCodeP U p = FC at *
        have HWR := hide (written_any u uc U.length U e y e.chunks.length yc w4 HRU.out (HU.out.below B4.out) rfl HEP.out rfl KY4.out.2 hesm.1 hesm.2)
        clear hfc
        go_wp2_with fail
        clear s0 s1 s2 s3 t0 t1 t2 t3 t4 t5 y0 y1 y2 y3
        refine HWR.out.mono ?_
        rintro r w5 ⟨av5, cv5, rfl, hG5, hb5⟩
        have G5 := hide hG5
        have B5 := hide (below_next B4.out hb5)
        have hl4 := X4.out.lt
        obtain ⟨⟨t0, t1, t2⟩, t3, t4, t5⟩ := X4.out.below hb5
        clear hG5 hb5 HWR
        go_wp2_with fail
        refine bodyPost_ret (v := .agg #[.int .i64 0, .int .i64 (wrtR U e), .slice av5 (wrtL U e).length cv5]) (by simp [results, Tryz.results21, go_sem, t0, t1, t2]) rfl ⟨0, wrtR U e, wrtL U e, HCP.out, ResG.of hl4 (Nat.le_refl _) rfl G5.out B5.out⟩
    · have HCP : Hid (CpyOf ls U p 0 (plcC al p) U) := hide (by
        have z1 := HZ.out
        have z2 := hc
        rw [HALL.out] at z1 z2
        rw [HALL.out]
        exact ⟨fun h => absurd z1 h, fun _ _ => ⟨rfl, rfl, rfl⟩, fun _ h => absurd h z2, fun _ h => absurd h z2⟩)
      generalize plcC al p = F at *
      generalize (lookL al p).length = LL at *
      have hz2 : (F != 0) = true := by simp; exact hc
      clear hc R3
      obtain ⟨⟨s0, s1⟩, s2, s3⟩ := T3.out
      obtain ⟨⟨t0, t1, t2⟩, t3, t4, t5⟩ := X3.out
      go_wp2_with fail
      clear s0 s1 s2 s3 t0 t1 t2 t3 t4 t5
      generalize w3.alloc (.cells #[.int .i64 F, .slice lv LL lc] 42) = W3 at *
      refine (HST.out F W3 B3.out).mono ?_
      rintro r w5 ⟨av5, cv5, rfl, hG5, hb5⟩
      have G5 := hide hG5
      have B5 := hide (below_next B3.out hb5)
      have hl4 := X3.out.lt
      obtain ⟨⟨t0, t1, t2⟩, t3, t4, t5⟩ := X3.out.below hb5
      clear hG5 hb5
      go_wp2_with fail
      exact bodyPost_ret (v := .agg #[.int .i64 0, .int .i64 F, .slice av5 U.length cv5]) (by simp [results, Tryz.results21, go_sem, t0, t1, t2]) rfl ⟨0, F, U, HCP.out, ResG.of hl4 (Nat.le_refl _) rfl G5.out B5.out⟩
  · have HCP : Hid (CpyOf ls U p (askL al p) 0 []) := hide (by
      rw [HALL.out] at hz ⊢
      exact ⟨fun _ => ⟨rfl, rfl, rfl⟩, fun h => absurd h hz, fun h => absurd h hz, fun h => absurd h hz⟩)
    generalize askL al p = F at *
    have hz2 : (F != 0) = true := by simp; exact hz
    clear hz
    go_wp2_with fail
    refine HAS.out.mono ?_
    rintro r w2 ⟨rfl, hb2⟩
    have B2 := hide (below_next B1.out hb2)
    have hl1 := X1.out.lt
    obtain ⟨⟨t0, t1, t2⟩, t3, t4, t5⟩ := X1.out.below hb2
    clear hb2
    go_wp2_with fail
    exact bodyPost_ret (v := .agg #[.int .i64 F, .int .i64 0, .slice none 0 0]) (by simp [results, Tryz.results21, go_sem, t0, t1, t2]) rfl ⟨F, 0, [], HCP.out, ResG.of (b := w.heap.size) (Nat.lt_succ_self _) (Nat.le_refl _) rfl (GW.nil _ _) B2.out⟩
end Go.Proofs.YtebgfaohhhgdpaaGreat

