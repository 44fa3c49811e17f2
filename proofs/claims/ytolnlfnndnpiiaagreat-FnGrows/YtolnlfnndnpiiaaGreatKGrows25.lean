/-
  Texts put together: MntK MntL MntM.
-/
import Derived.Test.YtolnlfnndnpiiaaGreatKGrows24
import Derived.Test.YtolnlfnndnpiiaaGreatKGrows23
import Derived.Test.YtolnlfnndnpiiaaGreatKGrows21
namespace Go.Proofs.YtolnlfnndnpiiaaGreat
open Go.RowKit Go.Maps
set_option linter.unusedVariables false
attribute [local go_sem ↓] Go.wp_at_zero Go.wp_at_succ

set_option maxRecDepth 100000 in
set_option maxHeartbeats 6400000 in
theorem l9Make_any (a : Option Addr) (c n : Nat) (ls : List (List En)) (u : Option Addr) (uc m : Nat) (U : List En) (p : Bs) (w : World) (h : RdL w a ls) (hn : n = ls.length) (hU : RdE w u U) (hm : m = U.length) (h4 : (ls ++ [U]).length ≤ 4) (hR : ∀ es ∈ ls ++ [U], Right es) (hp : faultP p = 0) (hpl : p.length ≤ 1048576) :
    Calls Tryz.prog 122 #[.slice a n c, .slice u m uc, .string (str p)] w fun r w' => ∃ rep V, MkS (allE (ls ++ [U])) U p rep V ∧ ResG 0 rep V w r w' := by
  subst hn
  subst hm
  have hRU : Right U := hR U (by simp)
  have hl4 : ls.length ≤ 4 := by rw [List.length_append] at h4; omega
  have hUl := hRU.len
  have HUs := hide (right_small hRU)
  have HP := hide hp
  have X0 := hide (Box3.new w (.int .i64 0) (.int .i64 0) (.slice none 0 0) 64)
  have B0 := hide (below_alloc w (.cells #[.int .i64 0, .int .i64 0, .slice none 0 0] 64))
  have HA := hide (l9All_any a c ls.length ls u uc U.length U _ (h.below B0.out) rfl (by omega) (hU.below B0.out) rfl)
  have HU := hide hU
  have HST := hide (fun (q : Int) v (hv : Below w.heap.size w v) => l9Reply_any u uc U.length U q v (HU.out.below hv) rfl (by omega) HUs.out)
  have HRR := hide hR
  have H4 := hide h4
  clear h hU hR hRU hp h4
  obtain ⟨al, hal⟩ : ∃ al, al = ls ++ [U] := ⟨_, rfl⟩
  rw [← hal] at HA HRR H4 ⊢
  have HALL := hide hal
  clear hal
  by_cases hh : homeC (allE al) p = 0
  · cases ha : findE (allE al) p with
    | none =>
      have HC := hide (show mkS (allE al) p = 0 by simp [mkS, hh, ha])
      cases hat : atE U p with
      | none =>
        have HAT0 := hide hat
        have hdf : dirF U p = ⟨p, 2, 0, []⟩ := by simp [dirF, find_at_none hat]
        clear hat
        obtain ⟨rep, V, hV⟩ := fills_ex U U (dirF U p)
        have HCP := hide (MkS.fill HC.out hV)
        rw [hdf] at hV
        have HV := hide hV
        clear hV hdf HC
        go_enter Tryz.func122, Tryz.ntmps122
        go_wp2_with fail
        refine HA.out.mono ?_
        rintro r w1 ⟨av, cv, rfl, hr1, hb1⟩
        have X1 := hide (X0.out.below hb1)
        have B1 := hide (below_next B0.out hb1)
        have R1 := hide hr1
        have hlt := X1.out.lt
        clear hr1 hb1 HA X0 B0
        have HHM := hide (l9Home_any av cv _ _ p w1 R1.out rfl H4.out HRR.out HP.out hpl)
        rw [hh] at HHM
        clear hh
        go_wp2_with fail
        refine HHM.out.mono ?_
        rintro r w2 ⟨rfl, hb2⟩
        have X2 := hide (X1.out.below hb2)
        have B2 := hide (below_next B1.out hb2)
        have R2 := hide (R1.out.below hb2)
        clear hb2 HHM X1 B1 R1
        have HLK := hide (l8Look_no av cv _ _ p w2 R2.out rfl H4.out HRR.out HP.out hpl ha)
        clear ha
        go_wp2_with fail
        refine HLK.out.mono ?_
        rintro r w3 ⟨rfl, hb3⟩
        have A3 := hide (below_alloc w3 (.cells #[.string ⟨#[]⟩, .int .i64 0, .int .i64 0, .slice none 0 0] 50))
        have B3 := hide (below_next B2.out (below_next hb3 A3.out))
        have X3 := hide (X2.out.below (below_next hb3 A3.out))
        have R3 := hide (R2.out.below (below_next hb3 A3.out))
        obtain ⟨f0, f1, f2, f3⟩ := Four.new w3 (.string ⟨#[]⟩) (.int .i64 0) (.int .i64 0) (.slice none 0 0) 50
        clear hb3 A3 HLK X2 B2 R2
        go_wp2_with fail
        clear f0 f1 f2 f3
        generalize hW3 : w3.alloc (.cells #[.string ⟨#[]⟩, .int .i64 0, .int .i64 0, .slice none 0 0] 50) = W3 at *
        have HS3 := hide (show W3.heap.size = w3.heap.size + 1 by rw [← hW3]; simp)
        clear hW3
        have A4 := hide (below_alloc W3 (.cells #[.string (str p), .int .i64 2, .int .i64 0, .slice none 0 0] 50))
        have B4 := hide (below_next B3.out A4.out)
        have X4 := hide (X3.out.below A4.out)
        have HAT := hide (l4At_any u uc U.length U p _ (HU.out.below B4.out) rfl (by omega))
        have F4 := hide (Four.new W3 (.string (str p)) (.int .i64 2) (.int .i64 0) (.slice none 0 0) 50)
        rw [HS3.out] at F4
        have K4 : Hid (∀ i, (W3.alloc (.cells #[.string (str p), .int .i64 2, .int .i64 0, .slice none 0 0] 50)).frozen? ⟨w3.heap.size + 1, i, none⟩ = false) := hide (fun i => by rw [← HS3.out]; simp)
        have hlt3 := B3.out.size
        refine HAT.out.mono ?_
        rintro r w4 ⟨rfl, rfl⟩
        rw [HAT0.out]
        simp only [placeI]
        clear HAT HAT0
        obtain ⟨f0, f1, f2, f3⟩ := F4.out
        go_wp2_with fail
        clear f0 f1 f2 f3
        generalize W3.alloc (.cells #[.string (str p), .int .i64 2, .int .i64 0, .slice none 0 0] 50) = W4 at *
        have HFL := hide (l9Fill_any u uc U.length U u uc U.length U ⟨p, 2, 0, []⟩ none 0 0 W4 (HU.out.below B4.out) rfl (by omega) HUs.out (HU.out.below B4.out) rfl (by omega) HUs.out HP.out rfl (fun hz => absurd rfl hz) hpl (by simp) rep V HV.out)
        refine HFL.out.mono ?_
        rintro r w9 ⟨av9, cv9, rfl, hG9, hb9⟩
        have G9 := hide hG9
        have B9 := hide (below_next B4.out hb9)
        have hl9 := X4.out.lt
        obtain ⟨⟨t0, t1, t2⟩, t3, t4, t5⟩ := X4.out.below hb9
        clear hG9 hb9
        go_wp2_with fail
        exact bodyPost_ret (v := .agg #[.int .i64 0, .int .i64 rep, .slice av9 V.length cv9]) (by simp [results, Tryz.results122, go_sem, t0, t1, t2]) rfl ⟨rep, V, HCP.out, ResG.of hl9 (Nat.le_refl _) rfl G9.out B9.out⟩
      | some k =>
        have hk := atE_lt hat
        obtain ⟨y, hy⟩ : ∃ y, U[k]? = some y := ⟨U[k], List.getElem?_eq_getElem hk⟩
        have HAT0 := hide hat
        have HY := hide hy
        by_cases hy3 : y.kind = 3
        · have hdf : dirF U p = ⟨p, 4, 0, []⟩ := by simp [dirF, find_at hat hy, hy3]
          have hy3b : (y.kind == 3) = true := by simpa using hy3
          clear hat hy hy3
          obtain ⟨rep, V, hV⟩ := fills_ex U U (dirF U p)
          have HCP := hide (MkS.fill HC.out hV)
          rw [hdf] at hV
          have HV := hide hV
          clear hV hdf HC
          go_enter Tryz.func122, Tryz.ntmps122
          go_wp2_with fail
          refine HA.out.mono ?_
          rintro r w1 ⟨av, cv, rfl, hr1, hb1⟩
          have X1 := hide (X0.out.below hb1)
          have B1 := hide (below_next B0.out hb1)
          have R1 := hide hr1
          have hlt := X1.out.lt
          clear hr1 hb1 HA X0 B0
          have HHM := hide (l9Home_any av cv _ _ p w1 R1.out rfl H4.out HRR.out HP.out hpl)
          rw [hh] at HHM
          clear hh
          go_wp2_with fail
          refine HHM.out.mono ?_
          rintro r w2 ⟨rfl, hb2⟩
          have X2 := hide (X1.out.below hb2)
          have B2 := hide (below_next B1.out hb2)
          have R2 := hide (R1.out.below hb2)
          clear hb2 HHM X1 B1 R1
          have HLK := hide (l8Look_no av cv _ _ p w2 R2.out rfl H4.out HRR.out HP.out hpl ha)
          clear ha
          go_wp2_with fail
          refine HLK.out.mono ?_
          rintro r w3 ⟨rfl, hb3⟩
          have A3 := hide (below_alloc w3 (.cells #[.string ⟨#[]⟩, .int .i64 0, .int .i64 0, .slice none 0 0] 50))
          have B3 := hide (below_next B2.out (below_next hb3 A3.out))
          have X3 := hide (X2.out.below (below_next hb3 A3.out))
          have R3 := hide (R2.out.below (below_next hb3 A3.out))
          obtain ⟨f0, f1, f2, f3⟩ := Four.new w3 (.string ⟨#[]⟩) (.int .i64 0) (.int .i64 0) (.slice none 0 0) 50
          clear hb3 A3 HLK X2 B2 R2
          go_wp2_with fail
          clear f0 f1 f2 f3
          generalize hW3 : w3.alloc (.cells #[.string ⟨#[]⟩, .int .i64 0, .int .i64 0, .slice none 0 0] 50) = W3 at *
          have HS3 := hide (show W3.heap.size = w3.heap.size + 1 by rw [← hW3]; simp)
          clear hW3
          have A4 := hide (below_alloc W3 (.cells #[.string (str p), .int .i64 2, .int .i64 0, .slice none 0 0] 50))
          have B4 := hide (below_next B3.out A4.out)
          have X4 := hide (X3.out.below A4.out)
          have HAT := hide (l4At_any u uc U.length U p _ (HU.out.below B4.out) rfl (by omega))
          have F4 := hide (Four.new W3 (.string (str p)) (.int .i64 2) (.int .i64 0) (.slice none 0 0) 50)
          rw [HS3.out] at F4
          have K4 : Hid (∀ i, (W3.alloc (.cells #[.string (str p), .int .i64 2, .int .i64 0, .slice none 0 0] 50)).frozen? ⟨w3.heap.size + 1, i, none⟩ = false) := hide (fun i => by rw [← HS3.out]; simp)
          have hlt3 := B3.out.size
          refine HAT.out.mono ?_
          rintro r w4 ⟨rfl, rfl⟩
          rw [HAT0.out]
          simp only [placeI]
          clear HAT HAT0
          obtain ⟨f0, f1, f2, f3⟩ := F4.out
          obtain ⟨yb, yo, y', yx, yc, rfl, hyb, hye, y0, y1, y2, y3, hyr⟩ := (HU.out.below B4.out).at hk
          have hyy : y' = y := Option.some.inj (hye.symm.trans HY.out)
          subst hyy
          clear hye hyr
          have hk0 : (0 : Int) ≤ (k : Int) := by omega
          have hk1 : (k : Int) < (U.length : Int) := by omega
          have A5 := hide (A4.out.setCell (p := ⟨w3.heap.size + 1, 1, none⟩) (Nat.le_of_eq HS3.out) (.int .i64 4))
          have B5 := hide (below_next B3.out A5.out)
          have X5 := hide (X3.out.below A5.out)
          have k1 := K4.out 1
          have g0 : ((W3.alloc (.cells #[.string (str p), .int .i64 2, .int .i64 0, .slice none 0 0] 50)).setCell ⟨w3.heap.size + 1, 1, none⟩ (.int .i64 4)).cell? ⟨w3.heap.size + 1, 0, none⟩ = some (.string (str p)) := by rw [cell_set_other (by simp)]; exact f0
          have g1 : ((W3.alloc (.cells #[.string (str p), .int .i64 2, .int .i64 0, .slice none 0 0] 50)).setCell ⟨w3.heap.size + 1, 1, none⟩ (.int .i64 4)).cell? ⟨w3.heap.size + 1, 1, none⟩ = some (.int .i64 4) := cell_set_same f1
          have g2 : ((W3.alloc (.cells #[.string (str p), .int .i64 2, .int .i64 0, .slice none 0 0] 50)).setCell ⟨w3.heap.size + 1, 1, none⟩ (.int .i64 4)).cell? ⟨w3.heap.size + 1, 2, none⟩ = some (.int .i64 0) := by rw [cell_set_other (by simp)]; exact f2
          have g3 : ((W3.alloc (.cells #[.string (str p), .int .i64 2, .int .i64 0, .slice none 0 0] 50)).setCell ⟨w3.heap.size + 1, 1, none⟩ (.int .i64 4)).cell? ⟨w3.heap.size + 1, 3, none⟩ = some (.slice none 0 0) := by rw [cell_set_other (by simp)]; exact f3
          go_wp2_with fail
          clear f0 f1 f2 f3 g0 g1 g2 g3 k1 y0 y1 y2 y3
          generalize (W3.alloc (.cells #[.string (str p), .int .i64 2, .int .i64 0, .slice none 0 0] 50)).setCell ⟨w3.heap.size + 1, 1, none⟩ (.int .i64 4) = W5 at *
          have HFL := hide (l9Fill_any _ uc U.length U _ uc U.length U ⟨p, 4, 0, []⟩ none 0 0 W5 (HU.out.below B5.out) rfl (by omega) HUs.out (HU.out.below B5.out) rfl (by omega) HUs.out HP.out rfl (fun hz => absurd rfl hz) hpl (by simp) rep V HV.out)
          refine HFL.out.mono ?_
          rintro r w9 ⟨av9, cv9, rfl, hG9, hb9⟩
          have G9 := hide hG9
          have B9 := hide (below_next B5.out hb9)
          have hl9 := X5.out.lt
          obtain ⟨⟨t0, t1, t2⟩, t3, t4, t5⟩ := X5.out.below hb9
          clear hG9 hb9
          go_wp2_with fail
          exact bodyPost_ret (v := .agg #[.int .i64 0, .int .i64 rep, .slice av9 V.length cv9]) (by simp [results, Tryz.results122, go_sem, t0, t1, t2]) rfl ⟨rep, V, HCP.out, ResG.of hl9 (Nat.le_refl _) rfl G9.out B9.out⟩
        · have hdf : dirF U p = ⟨p, 2, 0, []⟩ := by simp [dirF, find_at hat hy, hy3]
          have hy3b : (y.kind == 3) = false := by simpa using hy3
          clear hat hy hy3
          obtain ⟨rep, V, hV⟩ := fills_ex U U (dirF U p)
          have HCP := hide (MkS.fill HC.out hV)
          rw [hdf] at hV
          have HV := hide hV
          clear hV hdf HC
          go_enter Tryz.func122, Tryz.ntmps122
          go_wp2_with fail
          refine HA.out.mono ?_
          rintro r w1 ⟨av, cv, rfl, hr1, hb1⟩
          have X1 := hide (X0.out.below hb1)
          have B1 := hide (below_next B0.out hb1)
          have R1 := hide hr1
          have hlt := X1.out.lt
          clear hr1 hb1 HA X0 B0
          have HHM := hide (l9Home_any av cv _ _ p w1 R1.out rfl H4.out HRR.out HP.out hpl)
          rw [hh] at HHM
          clear hh
          go_wp2_with fail
          refine HHM.out.mono ?_
          rintro r w2 ⟨rfl, hb2⟩
          have X2 := hide (X1.out.below hb2)
          have B2 := hide (below_next B1.out hb2)
          have R2 := hide (R1.out.below hb2)
          clear hb2 HHM X1 B1 R1
          have HLK := hide (l8Look_no av cv _ _ p w2 R2.out rfl H4.out HRR.out HP.out hpl ha)
          clear ha
          go_wp2_with fail
          refine HLK.out.mono ?_
          rintro r w3 ⟨rfl, hb3⟩
          have A3 := hide (below_alloc w3 (.cells #[.string ⟨#[]⟩, .int .i64 0, .int .i64 0, .slice none 0 0] 50))
          have B3 := hide (below_next B2.out (below_next hb3 A3.out))
          have X3 := hide (X2.out.below (below_next hb3 A3.out))
          have R3 := hide (R2.out.below (below_next hb3 A3.out))
          obtain ⟨f0, f1, f2, f3⟩ := Four.new w3 (.string ⟨#[]⟩) (.int .i64 0) (.int .i64 0) (.slice none 0 0) 50
          clear hb3 A3 HLK X2 B2 R2
          go_wp2_with fail
          clear f0 f1 f2 f3
          generalize hW3 : w3.alloc (.cells #[.string ⟨#[]⟩, .int .i64 0, .int .i64 0, .slice none 0 0] 50) = W3 at *
          have HS3 := hide (show W3.heap.size = w3.heap.size + 1 by rw [← hW3]; simp)
          clear hW3
          have A4 := hide (below_alloc W3 (.cells #[.string (str p), .int .i64 2, .int .i64 0, .slice none 0 0] 50))
          have B4 := hide (below_next B3.out A4.out)
          have X4 := hide (X3.out.below A4.out)
          have HAT := hide (l4At_any u uc U.length U p _ (HU.out.below B4.out) rfl (by omega))
          have F4 := hide (Four.new W3 (.string (str p)) (.int .i64 2) (.int .i64 0) (.slice none 0 0) 50)
          rw [HS3.out] at F4
          have K4 : Hid (∀ i, (W3.alloc (.cells #[.string (str p), .int .i64 2, .int .i64 0, .slice none 0 0] 50)).frozen? ⟨w3.heap.size + 1, i, none⟩ = false) := hide (fun i => by rw [← HS3.out]; simp)
          have hlt3 := B3.out.size
          refine HAT.out.mono ?_
          rintro r w4 ⟨rfl, rfl⟩
          rw [HAT0.out]
          simp only [placeI]
          clear HAT HAT0
          obtain ⟨f0, f1, f2, f3⟩ := F4.out
          obtain ⟨yb, yo, y', yx, yc, rfl, hyb, hye, y0, y1, y2, y3, hyr⟩ := (HU.out.below B4.out).at hk
          have hyy : y' = y := Option.some.inj (hye.symm.trans HY.out)
          subst hyy
          clear hye hyr
          have hk0 : (0 : Int) ≤ (k : Int) := by omega
          have hk1 : (k : Int) < (U.length : Int) := by omega
          go_wp2_with fail
          clear y0 y1 y2 y3
          clear f0 f1 f2 f3
          generalize W3.alloc (.cells #[.string (str p), .int .i64 2, .int .i64 0, .slice none 0 0] 50) = W4 at *
          have HFL := hide (l9Fill_any _ uc U.length U _ uc U.length U ⟨p, 2, 0, []⟩ none 0 0 W4 (HU.out.below B4.out) rfl (by omega) HUs.out (HU.out.below B4.out) rfl (by omega) HUs.out HP.out rfl (fun hz => absurd rfl hz) hpl (by simp) rep V HV.out)
          refine HFL.out.mono ?_
          rintro r w9 ⟨av9, cv9, rfl, hG9, hb9⟩
          have G9 := hide hG9
          have B9 := hide (below_next B4.out hb9)
          have hl9 := X4.out.lt
          obtain ⟨⟨t0, t1, t2⟩, t3, t4, t5⟩ := X4.out.below hb9
          clear hG9 hb9
          go_wp2_with fail
          exact bodyPost_ret (v := .agg #[.int .i64 0, .int .i64 rep, .slice av9 V.length cv9]) (by simp [results, Tryz.results122, go_sem, t0, t1, t2]) rfl ⟨rep, V, HCP.out, ResG.of hl9 (Nat.le_refl _) rfl G9.out B9.out⟩
    | some e =>
      have HC := hide (show mkS (allE al) p = 7 by simp [mkS, hh, ha])
      go_enter Tryz.func122, Tryz.ntmps122
      go_wp2_with fail
      refine HA.out.mono ?_
      rintro r w1 ⟨av, cv, rfl, hr1, hb1⟩
      have X1 := hide (X0.out.below hb1)
      have B1 := hide (below_next B0.out hb1)
      have R1 := hide hr1
      have hlt := X1.out.lt
      clear hr1 hb1 HA X0 B0
      have HHM := hide (l9Home_any av cv _ _ p w1 R1.out rfl H4.out HRR.out HP.out hpl)
      rw [hh] at HHM
      clear hh
      go_wp2_with fail
      refine HHM.out.mono ?_
      rintro r w2 ⟨rfl, hb2⟩
      have X2 := hide (X1.out.below hb2)
      have B2 := hide (below_next B1.out hb2)
      have R2 := hide (R1.out.below hb2)
      clear hb2 HHM X1 B1 R1
      have HLK := hide (l8Look_yes av cv _ _ p w2 R2.out rfl H4.out HRR.out HP.out hpl e ha)
      clear ha
      go_wp2_with fail
      refine HLK.out.mono ?_
      rintro r w3 ⟨x, xc, rfl, -, hb3⟩
      have A3 := hide (below_alloc w3 (.cells #[.string (str e.path), .int .i64 e.kind, .int .i64 e.size, .slice x e.chunks.length xc] 50))
      have B3 := hide (below_next B2.out (below_next hb3 A3.out))
      have X3 := hide (X2.out.below (below_next hb3 A3.out))
      have R3 := hide (R2.out.below (below_next hb3 A3.out))
      obtain ⟨f0, f1, f2, f3⟩ := Four.new w3 (.string (str e.path)) (.int .i64 e.kind) (.int .i64 e.size) (.slice x e.chunks.length xc) 50
      clear hb3 A3 HLK X2 B2 R2
      go_wp2_with fail
      clear f0 f1 f2 f3
      generalize w3.alloc (.cells #[.string (str e.path), .int .i64 e.kind, .int .i64 e.size, .slice x e.chunks.length xc] 50) = W3 at *
      refine (HST.out 7 W3 B3.out).mono ?_
      rintro r w9 ⟨av9, cv9, rfl, hG9, hb9⟩
      have G9 := hide hG9
      have B9 := hide (below_next B3.out hb9)
      have hl9 := X3.out.lt
      obtain ⟨⟨t0, t1, t2⟩, t3, t4, t5⟩ := X3.out.below hb9
      clear hG9 hb9
      go_wp2_with fail
      exact bodyPost_ret (v := .agg #[.int .i64 0, .int .i64 7, .slice av9 U.length cv9]) (by simp [results, Tryz.results122, go_sem, t0, t1, t2]) rfl ⟨7, U, MkS.stay HC.out (by decide), ResG.of hl9 (Nat.le_refl _) rfl G9.out B9.out⟩
  · have HC := hide (show mkS (allE al) p = homeC (allE al) p by simp [mkS, hh])
    have HH0 := hide hh
    obtain ⟨F, hF⟩ : ∃ F, F = homeC (allE al) p := ⟨_, rfl⟩
    rw [← hF] at HC HH0
    have HFE := hide hF
    have hz2 : (F != 0) = true := by simp; exact HH0.out
    clear hh hF
    go_enter Tryz.func122, Tryz.ntmps122
    go_wp2_with fail
    refine HA.out.mono ?_
    rintro r w1 ⟨av, cv, rfl, hr1, hb1⟩
    have X1 := hide (X0.out.below hb1)
    have B1 := hide (below_next B0.out hb1)
    have R1 := hide hr1
    have hlt := X1.out.lt
    clear hr1 hb1 HA X0 B0
    have HHM := hide (l9Home_any av cv _ _ p w1 R1.out rfl H4.out HRR.out HP.out hpl)
    rw [← HFE.out] at HHM
    go_wp2_with fail
    refine HHM.out.mono ?_
    rintro r w2 ⟨rfl, hb2⟩
    have X2 := hide (X1.out.below hb2)
    have B2 := hide (below_next B1.out hb2)
    have R2 := hide (R1.out.below hb2)
    clear hb2 HHM X1 B1 R1
    go_wp2_with fail
    refine (HST.out F w2 B2.out).mono ?_
    rintro r w9 ⟨av9, cv9, rfl, hG9, hb9⟩
    have G9 := hide hG9
    have B9 := hide (below_next B2.out hb9)
    have hl9 := X2.out.lt
    obtain ⟨⟨t0, t1, t2⟩, t3, t4, t5⟩ := X2.out.below hb9
    clear hG9 hb9
    go_wp2_with fail
    exact bodyPost_ret (v := .agg #[.int .i64 0, .int .i64 F, .slice av9 U.length cv9]) (by simp [results, Tryz.results122, go_sem, t0, t1, t2]) rfl ⟨F, U, MkS.stay HC.out HH0.out, ResG.of hl9 (Nat.le_refl _) rfl G9.out B9.out⟩
end Go.Proofs.YtolnlfnndnpiiaaGreat

namespace Go.Proofs.YtolnlfnndnpiiaaGreat
open Go.RowKit Go.Maps
set_option linter.unusedVariables false
attribute [local go_sem ↓] Go.wp_at_zero Go.wp_at_succ

def rmS (T : List En) (p : Bs) : Int := match findE T p with | none => 4 | some e => if e.kind = 2 then (if 0 < (namesE T p).length then 1 else 0) else 0
structure RmS (ls : List (List En)) (T U : List En) (p : Bs) (rep : Int) (V : List En) : Prop where
  no : rmS T p ≠ 0 → rep = rmS T p ∧ V = U
  gone : rmS T p = 0 → findE (allE (ls ++ [restE U p true])) p = none → rep = 0 ∧ V = restE U p true
  white : rmS T p = 0 → findE (allE (ls ++ [restE U p true])) p ≠ none → FillsO U (restE U p true) ⟨p, 3, 0, []⟩ rep V
theorem RmS.stay {ls : List (List En)} {T U : List En} {p : Bs} {q : Int} (h : rmS T p = q) (hq : q ≠ 0) : RmS ls T U p q U := ⟨fun _ => ⟨h.symm, rfl⟩, fun h2 => absurd (h.symm.trans h2) hq, fun h2 => absurd (h.symm.trans h2) hq⟩
theorem right_restE {U : List En} {p : Bs} (h : Right U) (hp : faultP p = 0) : Right (restE U p true) := by
  have h1 := right_rest h hp
  have h2 : restP U p = restE U p true := restP_eq (fun x hx => entFault_zero (h.ent x hx)) hp
  rwa [h2] at h1
set_option maxRecDepth 100000 in
set_option maxHeartbeats 6400000 in
theorem l9Remove_any (a : Option Addr) (c n : Nat) (ls : List (List En)) (u : Option Addr) (uc m : Nat) (U : List En) (p : Bs) (w : World) (h : RdL w a ls) (hn : n = ls.length) (hU : RdE w u U) (hm : m = U.length) (h4 : (ls ++ [U]).length ≤ 4) (hR : ∀ es ∈ ls ++ [U], Right es) (hp : faultP p = 0) (hpl : p.length ≤ 1048576) :
    Calls Tryz.prog 123 #[.slice a n c, .slice u m uc, .string (str p)] w fun r w' => ∃ rep V, RmS ls (allE (ls ++ [U])) U p rep V ∧ ResG 0 rep V w r w' := by
  subst hn
  subst hm
  have hRU : Right U := hR U (by simp)
  have hl4 : ls.length ≤ 4 := by rw [List.length_append] at h4; omega
  have hUl := hRU.len
  have HUs := hide (right_small hRU)
  have HP := hide hp
  have X0 := hide (Box3.new w (.int .i64 0) (.int .i64 0) (.slice none 0 0) 64)
  have B0 := hide (below_alloc w (.cells #[.int .i64 0, .int .i64 0, .slice none 0 0] 64))
  have HA := hide (l9All_any a c ls.length ls u uc U.length U _ (h.below B0.out) rfl (by omega) (hU.below B0.out) rfl)
  have HU := hide hU
  have HST := hide (fun (q : Int) v (hv : Below w.heap.size w v) => l9Reply_any u uc U.length U q v (HU.out.below hv) rfl (by omega) HUs.out)
  have HRR := hide hR
  have H4 := hide h4
  have HRD := hide h
  have hRr := right_restE hRU hp
  have HRS := hide (right_small hRr)
  have hrl := hRr.len
  have H42 := hide (show (ls ++ [restE U p true]).length ≤ 4 by rw [List.length_append] at h4 ⊢; simpa using h4)
  have HR2 := hide (show ∀ es ∈ ls ++ [restE U p true], Right es from fun es he => by
    rcases List.mem_append.1 he with he | he
    · exact hR es (List.mem_append_left _ he)
    · simp at he; subst he; exact hRr)
  have HWO := hide (fun v (hv : Below w.heap.size w v) => l4Without_any u uc U.length U p true v (hU.below hv) rfl (by omega) HUs.out hpl)
  clear hRr
  clear h hU hR hRU hp h4
  obtain ⟨al, hal⟩ : ∃ al, al = ls ++ [U] := ⟨_, rfl⟩
  rw [← hal] at HA HRR H4 ⊢
  have HALL := hide hal
  clear hal
  cases ha : findE (allE al) p with
  | none =>
    have HC := hide (show rmS (allE al) p = 4 by simp [rmS, ha])
    go_enter Tryz.func123, Tryz.ntmps123
    go_wp2_with fail
    refine HA.out.mono ?_
    rintro r w1 ⟨av, cv, rfl, hr1, hb1⟩
    have X1 := hide (X0.out.below hb1)
    have B1 := hide (below_next B0.out hb1)
    have R1 := hide hr1
    have hlt := X1.out.lt
    clear hr1 hb1 HA X0 B0
    have X2 := X1
    have B2 := B1
    have R2 := R1
    clear X1 B1 R1
    have HLK := hide (l8Look_no av cv _ _ p w1 R2.out rfl H4.out HRR.out HP.out hpl ha)
    clear ha
    go_wp2_with fail
    refine HLK.out.mono ?_
    rintro r w3 ⟨rfl, hb3⟩
    have A3 := hide (below_alloc w3 (.cells #[.string ⟨#[]⟩, .int .i64 0, .int .i64 0, .slice none 0 0] 50))
    have B3 := hide (below_next B2.out (below_next hb3 A3.out))
    have X3 := hide (X2.out.below (below_next hb3 A3.out))
    have R3 := hide (R2.out.below (below_next hb3 A3.out))
    obtain ⟨f0, f1, f2, f3⟩ := Four.new w3 (.string ⟨#[]⟩) (.int .i64 0) (.int .i64 0) (.slice none 0 0) 50
    clear hb3 A3 HLK X2 B2 R2
    go_wp2_with fail
    clear f0 f1 f2 f3
    generalize w3.alloc (.cells #[.string ⟨#[]⟩, .int .i64 0, .int .i64 0, .slice none 0 0] 50) = W3 at *
    refine (HST.out 4 W3 B3.out).mono ?_
    rintro r w9 ⟨av9, cv9, rfl, hG9, hb9⟩
    have G9 := hide hG9
    have B9 := hide (below_next B3.out hb9)
    have hl9 := X3.out.lt
    obtain ⟨⟨t0, t1, t2⟩, t3, t4, t5⟩ := X3.out.below hb9
    clear hG9 hb9
    go_wp2_with fail
    exact bodyPost_ret (v := .agg #[.int .i64 0, .int .i64 4, .slice av9 U.length cv9]) (by simp [results, Tryz.results123, go_sem, t0, t1, t2]) rfl ⟨4, U, RmS.stay HC.out (by decide), ResG.of hl9 (Nat.le_refl _) rfl G9.out B9.out⟩
  | some e =>
    by_cases hk : e.kind = 2
    · have hk2 : (e.kind == 2) = true := by simpa using hk
      by_cases hn : 0 < (namesE (allE al) p).length
      · have HC := hide (show rmS (allE al) p = 1 by simp only [rmS, ha]; rw [if_pos hk, if_pos hn])
        have hn2 : (0 : Int) < ((namesE (allE al) p).length : Int) := by omega
        clear hk hn
        go_enter Tryz.func123, Tryz.ntmps123
        go_wp2_with fail
        refine HA.out.mono ?_
        rintro r w1 ⟨av, cv, rfl, hr1, hb1⟩
        have X1 := hide (X0.out.below hb1)
        have B1 := hide (below_next B0.out hb1)
        have R1 := hide hr1
        have hlt := X1.out.lt
        clear hr1 hb1 HA X0 B0
        have X2 := X1
        have B2 := B1
        have R2 := R1
        clear X1 B1 R1
        have HLK := hide (l8Look_yes av cv _ _ p w1 R2.out rfl H4.out HRR.out HP.out hpl e ha)
        clear ha
        go_wp2_with fail
        refine HLK.out.mono ?_
        rintro r w3 ⟨x, xc, rfl, -, hb3⟩
        have A3 := hide (below_alloc w3 (.cells #[.string (str e.path), .int .i64 e.kind, .int .i64 e.size, .slice x e.chunks.length xc] 50))
        have B3 := hide (below_next B2.out (below_next hb3 A3.out))
        have X3 := hide (X2.out.below (below_next hb3 A3.out))
        have R3 := hide (R2.out.below (below_next hb3 A3.out))
        obtain ⟨f0, f1, f2, f3⟩ := Four.new w3 (.string (str e.path)) (.int .i64 e.kind) (.int .i64 e.size) (.slice x e.chunks.length xc) 50
        clear hb3 A3 HLK X2 B2 R2
        go_wp2_with fail
        clear f0 f1 f2 f3
        generalize w3.alloc (.cells #[.string (str e.path), .int .i64 e.kind, .int .i64 e.size, .slice x e.chunks.length xc] 50) = W3 at *
        have HNM := hide (l8Names_any av cv _ _ p W3 R3.out rfl H4.out HRR.out (.inr HP.out) hpl)
        refine HNM.out.mono ?_
        rintro r w4 ⟨nv, nc, rfl, -, hb4⟩
        have X4 := hide (X3.out.below hb4)
        have B4 := hide (below_next B3.out hb4)
        clear hb4 HNM X3 B3 R3
        generalize (namesE (allE al) p).length = NL at *
        go_wp2_with fail
        refine (HST.out 1 w4 B4.out).mono ?_
        rintro r w9 ⟨av9, cv9, rfl, hG9, hb9⟩
        have G9 := hide hG9
        have B9 := hide (below_next B4.out hb9)
        have hl9 := X4.out.lt
        obtain ⟨⟨t0, t1, t2⟩, t3, t4, t5⟩ := X4.out.below hb9
        clear hG9 hb9
        go_wp2_with fail
        exact bodyPost_ret (v := .agg #[.int .i64 0, .int .i64 1, .slice av9 U.length cv9]) (by simp [results, Tryz.results123, go_sem, t0, t1, t2]) rfl ⟨1, U, RmS.stay HC.out (by decide), ResG.of hl9 (Nat.le_refl _) rfl G9.out B9.out⟩
      · have HC := hide (show rmS (allE al) p = 0 by simp only [rmS, ha]; rw [if_pos hk, if_neg hn])
        have hn2 : ¬ (0 : Int) < ((namesE (allE al) p).length : Int) := by omega
        clear hk hn
        cases hs2 : findE (allE (ls ++ [restE U p true])) p with
        | none =>
          have HCP0 : Hid (RmS ls (allE al) U p 0 (restE U p true)) := hide ⟨fun h => absurd HC.out h, fun _ _ => ⟨rfl, rfl⟩, fun _ h => absurd hs2 h⟩
          have HE2 := hide hs2
          clear hs2
          obtain ⟨RU, hRU⟩ : ∃ RU, RU = restE U p true := ⟨_, rfl⟩
          have HCP : Hid (RmS ls (allE al) U p 0 RU) := hide (by rw [hRU]; exact HCP0.out)
          clear HCP0
          rw [← hRU] at HRS hrl H42 HR2 HWO HE2
          clear hRU
          obtain ⟨al2, hal2⟩ : ∃ al2, al2 = ls ++ [RU] := ⟨_, rfl⟩
          rw [← hal2] at H42 HR2 HE2
          have HAL2 := hide hal2
          clear hal2
          go_enter Tryz.func123, Tryz.ntmps123
          go_wp2_with fail
          refine HA.out.mono ?_
          rintro r w1 ⟨av, cv, rfl, hr1, hb1⟩
          have X1 := hide (X0.out.below hb1)
          have B1 := hide (below_next B0.out hb1)
          have R1 := hide hr1
          have hlt := X1.out.lt
          clear hr1 hb1 HA X0 B0
          have X2 := X1
          have B2 := B1
          have R2 := R1
          clear X1 B1 R1
          have HLK := hide (l8Look_yes av cv _ _ p w1 R2.out rfl H4.out HRR.out HP.out hpl e ha)
          clear ha
          go_wp2_with fail
          refine HLK.out.mono ?_
          rintro r w3 ⟨x, xc, rfl, -, hb3⟩
          have A3 := hide (below_alloc w3 (.cells #[.string (str e.path), .int .i64 e.kind, .int .i64 e.size, .slice x e.chunks.length xc] 50))
          have B3 := hide (below_next B2.out (below_next hb3 A3.out))
          have X3 := hide (X2.out.below (below_next hb3 A3.out))
          have R3 := hide (R2.out.below (below_next hb3 A3.out))
          obtain ⟨f0, f1, f2, f3⟩ := Four.new w3 (.string (str e.path)) (.int .i64 e.kind) (.int .i64 e.size) (.slice x e.chunks.length xc) 50
          clear hb3 A3 HLK X2 B2 R2
          go_wp2_with fail
          clear f0 f1 f2 f3
          generalize w3.alloc (.cells #[.string (str e.path), .int .i64 e.kind, .int .i64 e.size, .slice x e.chunks.length xc] 50) = W3 at *
          have HNM := hide (l8Names_any av cv _ _ p W3 R3.out rfl H4.out HRR.out (.inr HP.out) hpl)
          refine HNM.out.mono ?_
          rintro r w4 ⟨nv, nc, rfl, -, hb4⟩
          have X4 := hide (X3.out.below hb4)
          have B4 := hide (below_next B3.out hb4)
          clear hb4 HNM X3 B3 R3
          generalize (namesE (allE al) p).length = NL at *
          go_wp2_with fail
          have hxW := X4.out.lt
          refine (HWO.out w4 B4.out).mono ?_
          rintro r w6 ⟨g6, c6, rfl, hG6, hb6⟩
          have X6 := hide (X4.out.below hb6)
          have B6 := hide (below_next B4.out hb6)
          have G6 := hide (GW.of hG6)
          have HA6 := hide (l9All_any a c ls.length ls (some ⟨g6, 0, none⟩) c6 RU.length RU w6 (HRD.out.below B6.out) rfl (by omega) hG6.rd rfl)
          rw [← HAL2.out] at HA6
          clear hG6 hb6 HWO
          go_wp2_with fail
          refine HA6.out.mono ?_
          rintro r w7 ⟨av7, cv7, rfl, hr7, hb7⟩
          have X7 := hide (X6.out.below hb7)
          have B7 := hide (below_next B6.out hb7)
          have G7 := hide (G6.out.below hb7)
          have HL7 := hide (l8Look_no av7 cv7 al2.length al2 p w7 hr7 rfl H42.out HR2.out HP.out hpl HE2.out)
          clear hr7 hb7 HA6 X6 B6 G6
          go_wp2_with fail
          refine HL7.out.mono ?_
          rintro r w8 ⟨rfl, hb8⟩
          have A8 := hide (below_next hb8 (below_alloc w8 (.cells #[.string ⟨#[]⟩, .int .i64 0, .int .i64 0, .slice none 0 0] 50)))
          have B8 := hide (below_next B7.out A8.out)
          have G8 := hide (G7.out.below A8.out)
          obtain ⟨⟨t0, t1, t2⟩, t3, t4, t5⟩ := X7.out.below A8.out
          clear hb8 A8 HL7 B7 G7
          go_wp2_with fail
          exact bodyPost_ret (v := .agg #[.int .i64 0, .int .i64 0, .slice (some ⟨g6, 0, none⟩) RU.length c6]) (by simp [results, Tryz.results123, go_sem, t0, t1, t2]) rfl ⟨0, RU, HCP.out, ResG.of (b := w.heap.size) hxW (Nat.le_refl _) rfl G8.out B8.out⟩
        | some e2 =>
          obtain ⟨rep, V, hV⟩ := fills_ex U (restE U p true) ⟨p, 3, 0, []⟩
          have HCP : Hid (RmS ls (allE al) U p rep V) := hide ⟨fun h => absurd HC.out h, fun _ h => absurd (hs2.symm.trans h) (by simp), fun _ _ => hV⟩
          have HE2 := hide hs2
          have HV := hide hV
          clear hV hs2
          obtain ⟨RU, hRU⟩ : ∃ RU, RU = restE U p true := ⟨_, rfl⟩
          rw [← hRU] at HRS hrl H42 HR2 HWO HE2 HV
          clear hRU
          obtain ⟨al2, hal2⟩ : ∃ al2, al2 = ls ++ [RU] := ⟨_, rfl⟩
          rw [← hal2] at H42 HR2 HE2
          have HAL2 := hide hal2
          clear hal2
          go_enter Tryz.func123, Tryz.ntmps123
          go_wp2_with fail
          refine HA.out.mono ?_
          rintro r w1 ⟨av, cv, rfl, hr1, hb1⟩
          have X1 := hide (X0.out.below hb1)
          have B1 := hide (below_next B0.out hb1)
          have R1 := hide hr1
          have hlt := X1.out.lt
          clear hr1 hb1 HA X0 B0
          have X2 := X1
          have B2 := B1
          have R2 := R1
          clear X1 B1 R1
          have HLK := hide (l8Look_yes av cv _ _ p w1 R2.out rfl H4.out HRR.out HP.out hpl e ha)
          clear ha
          go_wp2_with fail
          refine HLK.out.mono ?_
          rintro r w3 ⟨x, xc, rfl, -, hb3⟩
          have A3 := hide (below_alloc w3 (.cells #[.string (str e.path), .int .i64 e.kind, .int .i64 e.size, .slice x e.chunks.length xc] 50))
          have B3 := hide (below_next B2.out (below_next hb3 A3.out))
          have X3 := hide (X2.out.below (below_next hb3 A3.out))
          have R3 := hide (R2.out.below (below_next hb3 A3.out))
          obtain ⟨f0, f1, f2, f3⟩ := Four.new w3 (.string (str e.path)) (.int .i64 e.kind) (.int .i64 e.size) (.slice x e.chunks.length xc) 50
          clear hb3 A3 HLK X2 B2 R2
          go_wp2_with fail
          clear f0 f1 f2 f3
          generalize w3.alloc (.cells #[.string (str e.path), .int .i64 e.kind, .int .i64 e.size, .slice x e.chunks.length xc] 50) = W3 at *
          have HNM := hide (l8Names_any av cv _ _ p W3 R3.out rfl H4.out HRR.out (.inr HP.out) hpl)
          refine HNM.out.mono ?_
          rintro r w4 ⟨nv, nc, rfl, -, hb4⟩
          have X4 := hide (X3.out.below hb4)
          have B4 := hide (below_next B3.out hb4)
          clear hb4 HNM X3 B3 R3
          generalize (namesE (allE al) p).length = NL at *
          go_wp2_with fail
          have hxW := X4.out.lt
          refine (HWO.out w4 B4.out).mono ?_
          rintro r w6 ⟨g6, c6, rfl, hG6, hb6⟩
          have X6 := hide (X4.out.below hb6)
          have B6 := hide (below_next B4.out hb6)
          have G6 := hide (GW.of hG6)
          have HA6 := hide (l9All_any a c ls.length ls (some ⟨g6, 0, none⟩) c6 RU.length RU w6 (HRD.out.below B6.out) rfl (by omega) hG6.rd rfl)
          rw [← HAL2.out] at HA6
          clear hG6 hb6 HWO
          go_wp2_with fail
          refine HA6.out.mono ?_
          rintro r w7 ⟨av7, cv7, rfl, hr7, hb7⟩
          have X7 := hide (X6.out.below hb7)
          have B7 := hide (below_next B6.out hb7)
          have G7 := hide (G6.out.below hb7)
          have HL7 := hide (l8Look_yes av7 cv7 al2.length al2 p w7 hr7 rfl H42.out HR2.out HP.out hpl e2 HE2.out)
          clear hr7 hb7 HA6 X6 B6 G6
          go_wp2_with fail
          refine HL7.out.mono ?_
          rintro r w8 ⟨x8, xc8, rfl, -, hb8⟩
          have A8 := hide (below_next hb8 (below_alloc w8 (.cells #[.string (str e2.path), .int .i64 e2.kind, .int .i64 e2.size, .slice x8 e2.chunks.length xc8] 50)))
          have X8 := hide (X7.out.below A8.out)
          have B8 := hide (below_next B7.out A8.out)
          have G8 := hide (G7.out.below A8.out)
          clear hb8 A8 HL7 X7 B7 G7
          go_wp2_with fail
          generalize w8.alloc (.cells #[.string (str e2.path), .int .i64 e2.kind, .int .i64 e2.size, .slice x8 e2.chunks.length xc8] 50) = W8 at *
          have HFL := hide (l9Fill_any u uc U.length U (some ⟨g6, 0, none⟩) c6 RU.length RU ⟨p, 3, 0, []⟩ none 0 0 W8 (HU.out.below B8.out) rfl (by omega) HUs.out G8.out.rd rfl (by omega) HRS.out HP.out rfl (fun hz => absurd rfl hz) hpl (by simp) rep V HV.out)
          refine HFL.out.mono ?_
          rintro r w9 ⟨av9, cv9, rfl, hG9, hb9⟩
          have G9 := hide hG9
          have B9 := hide (below_next B8.out hb9)
          have hl9 := X8.out.lt
          obtain ⟨⟨t0, t1, t2⟩, t3, t4, t5⟩ := X8.out.below hb9
          clear hG9 hb9
          go_wp2_with fail
          exact bodyPost_ret (v := .agg #[.int .i64 0, .int .i64 rep, .slice av9 V.length cv9]) (by simp [results, Tryz.results123, go_sem, t0, t1, t2]) rfl ⟨rep, V, HCP.out, ResG.of hl9 (Nat.le_refl _) rfl G9.out B9.out⟩
    · have HC := hide (show rmS (allE al) p = 0 by simp only [rmS, ha]; rw [if_neg hk])
      have hk2 : (e.kind == 2) = false := by simpa using hk
      clear hk
      cases hs2 : findE (allE (ls ++ [restE U p true])) p with
      | none =>
        have HCP0 : Hid (RmS ls (allE al) U p 0 (restE U p true)) := hide ⟨fun h => absurd HC.out h, fun _ _ => ⟨rfl, rfl⟩, fun _ h => absurd hs2 h⟩
        have HE2 := hide hs2
        clear hs2
        obtain ⟨RU, hRU⟩ : ∃ RU, RU = restE U p true := ⟨_, rfl⟩
        have HCP : Hid (RmS ls (allE al) U p 0 RU) := hide (by rw [hRU]; exact HCP0.out)
        clear HCP0
        rw [← hRU] at HRS hrl H42 HR2 HWO HE2
        clear hRU
        obtain ⟨al2, hal2⟩ : ∃ al2, al2 = ls ++ [RU] := ⟨_, rfl⟩
        rw [← hal2] at H42 HR2 HE2
        have HAL2 := hide hal2
        clear hal2
        go_enter Tryz.func123, Tryz.ntmps123
        go_wp2_with fail
        refine HA.out.mono ?_
        rintro r w1 ⟨av, cv, rfl, hr1, hb1⟩
        have X1 := hide (X0.out.below hb1)
        have B1 := hide (below_next B0.out hb1)
        have R1 := hide hr1
        have hlt := X1.out.lt
        clear hr1 hb1 HA X0 B0
        have X2 := X1
        have B2 := B1
        have R2 := R1
        clear X1 B1 R1
        have HLK := hide (l8Look_yes av cv _ _ p w1 R2.out rfl H4.out HRR.out HP.out hpl e ha)
        clear ha
        go_wp2_with fail
        refine HLK.out.mono ?_
        rintro r w3 ⟨x, xc, rfl, -, hb3⟩
        have A3 := hide (below_alloc w3 (.cells #[.string (str e.path), .int .i64 e.kind, .int .i64 e.size, .slice x e.chunks.length xc] 50))
        have B3 := hide (below_next B2.out (below_next hb3 A3.out))
        have X3 := hide (X2.out.below (below_next hb3 A3.out))
        have R3 := hide (R2.out.below (below_next hb3 A3.out))
        obtain ⟨f0, f1, f2, f3⟩ := Four.new w3 (.string (str e.path)) (.int .i64 e.kind) (.int .i64 e.size) (.slice x e.chunks.length xc) 50
        clear hb3 A3 HLK X2 B2 R2
        go_wp2_with fail
        clear f0 f1 f2 f3
        generalize w3.alloc (.cells #[.string (str e.path), .int .i64 e.kind, .int .i64 e.size, .slice x e.chunks.length xc] 50) = W3 at *
        have hxW := X3.out.lt
        refine (HWO.out W3 B3.out).mono ?_
        rintro r w6 ⟨g6, c6, rfl, hG6, hb6⟩
        have X6 := hide (X3.out.below hb6)
        have B6 := hide (below_next B3.out hb6)
        have G6 := hide (GW.of hG6)
        have HA6 := hide (l9All_any a c ls.length ls (some ⟨g6, 0, none⟩) c6 RU.length RU w6 (HRD.out.below B6.out) rfl (by omega) hG6.rd rfl)
        rw [← HAL2.out] at HA6
        clear hG6 hb6 HWO
        go_wp2_with fail
        refine HA6.out.mono ?_
        rintro r w7 ⟨av7, cv7, rfl, hr7, hb7⟩
        have X7 := hide (X6.out.below hb7)
        have B7 := hide (below_next B6.out hb7)
        have G7 := hide (G6.out.below hb7)
        have HL7 := hide (l8Look_no av7 cv7 al2.length al2 p w7 hr7 rfl H42.out HR2.out HP.out hpl HE2.out)
        clear hr7 hb7 HA6 X6 B6 G6
        go_wp2_with fail
        refine HL7.out.mono ?_
        rintro r w8 ⟨rfl, hb8⟩
        have A8 := hide (below_next hb8 (below_alloc w8 (.cells #[.string ⟨#[]⟩, .int .i64 0, .int .i64 0, .slice none 0 0] 50)))
        have B8 := hide (below_next B7.out A8.out)
        have G8 := hide (G7.out.below A8.out)
        obtain ⟨⟨t0, t1, t2⟩, t3, t4, t5⟩ := X7.out.below A8.out
        clear hb8 A8 HL7 B7 G7
        go_wp2_with fail
        exact bodyPost_ret (v := .agg #[.int .i64 0, .int .i64 0, .slice (some ⟨g6, 0, none⟩) RU.length c6]) (by simp [results, Tryz.results123, go_sem, t0, t1, t2]) rfl ⟨0, RU, HCP.out, ResG.of (b := w.heap.size) hxW (Nat.le_refl _) rfl G8.out B8.out⟩
      | some e2 =>
        obtain ⟨rep, V, hV⟩ := fills_ex U (restE U p true) ⟨p, 3, 0, []⟩
        have HCP : Hid (RmS ls (allE al) U p rep V) := hide ⟨fun h => absurd HC.out h, fun _ h => absurd (hs2.symm.trans h) (by simp), fun _ _ => hV⟩
        have HE2 := hide hs2
        have HV := hide hV
        clear hV hs2
        obtain ⟨RU, hRU⟩ : ∃ RU, RU = restE U p true := ⟨_, rfl⟩
        rw [← hRU] at HRS hrl H42 HR2 HWO HE2 HV
        clear hRU
        obtain ⟨al2, hal2⟩ : ∃ al2, al2 = ls ++ [RU] := ⟨_, rfl⟩
        rw [← hal2] at H42 HR2 HE2
        have HAL2 := hide hal2
        clear hal2
        go_enter Tryz.func123, Tryz.ntmps123
        go_wp2_with fail
        refine HA.out.mono ?_
        rintro r w1 ⟨av, cv, rfl, hr1, hb1⟩
        have X1 := hide (X0.out.below hb1)
        have B1 := hide (below_next B0.out hb1)
        have R1 := hide hr1
        have hlt := X1.out.lt
        clear hr1 hb1 HA X0 B0
        have X2 := X1
        have B2 := B1
        have R2 := R1
        clear X1 B1 R1
        have HLK := hide (l8Look_yes av cv _ _ p w1 R2.out rfl H4.out HRR.out HP.out hpl e ha)
        clear ha
        go_wp2_with fail
        refine HLK.out.mono ?_
        rintro r w3 ⟨x, xc, rfl, -, hb3⟩
        have A3 := hide (below_alloc w3 (.cells #[.string (str e.path), .int .i64 e.kind, .int .i64 e.size, .slice x e.chunks.length xc] 50))
        have B3 := hide (below_next B2.out (below_next hb3 A3.out))
        have X3 := hide (X2.out.below (below_next hb3 A3.out))
        have R3 := hide (R2.out.below (below_next hb3 A3.out))
        obtain ⟨f0, f1, f2, f3⟩ := Four.new w3 (.string (str e.path)) (.int .i64 e.kind) (.int .i64 e.size) (.slice x e.chunks.length xc) 50
        clear hb3 A3 HLK X2 B2 R2
        go_wp2_with fail
        clear f0 f1 f2 f3
        generalize w3.alloc (.cells #[.string (str e.path), .int .i64 e.kind, .int .i64 e.size, .slice x e.chunks.length xc] 50) = W3 at *
        have hxW := X3.out.lt
        refine (HWO.out W3 B3.out).mono ?_
        rintro r w6 ⟨g6, c6, rfl, hG6, hb6⟩
        have X6 := hide (X3.out.below hb6)
        have B6 := hide (below_next B3.out hb6)
        have G6 := hide (GW.of hG6)
        have HA6 := hide (l9All_any a c ls.length ls (some ⟨g6, 0, none⟩) c6 RU.length RU w6 (HRD.out.below B6.out) rfl (by omega) hG6.rd rfl)
        rw [← HAL2.out] at HA6
        clear hG6 hb6 HWO
        go_wp2_with fail
        refine HA6.out.mono ?_
        rintro r w7 ⟨av7, cv7, rfl, hr7, hb7⟩
        have X7 := hide (X6.out.below hb7)
        have B7 := hide (below_next B6.out hb7)
        have G7 := hide (G6.out.below hb7)
        have HL7 := hide (l8Look_yes av7 cv7 al2.length al2 p w7 hr7 rfl H42.out HR2.out HP.out hpl e2 HE2.out)
        clear hr7 hb7 HA6 X6 B6 G6
        go_wp2_with fail
        refine HL7.out.mono ?_
        rintro r w8 ⟨x8, xc8, rfl, -, hb8⟩
        have A8 := hide (below_next hb8 (below_alloc w8 (.cells #[.string (str e2.path), .int .i64 e2.kind, .int .i64 e2.size, .slice x8 e2.chunks.length xc8] 50)))
        have X8 := hide (X7.out.below A8.out)
        have B8 := hide (below_next B7.out A8.out)
        have G8 := hide (G7.out.below A8.out)
        clear hb8 A8 HL7 X7 B7 G7
        go_wp2_with fail
        generalize w8.alloc (.cells #[.string (str e2.path), .int .i64 e2.kind, .int .i64 e2.size, .slice x8 e2.chunks.length xc8] 50) = W8 at *
        have HFL := hide (l9Fill_any u uc U.length U (some ⟨g6, 0, none⟩) c6 RU.length RU ⟨p, 3, 0, []⟩ none 0 0 W8 (HU.out.below B8.out) rfl (by omega) HUs.out G8.out.rd rfl (by omega) HRS.out HP.out rfl (fun hz => absurd rfl hz) hpl (by simp) rep V HV.out)
        refine HFL.out.mono ?_
        rintro r w9 ⟨av9, cv9, rfl, hG9, hb9⟩
        have G9 := hide hG9
        have B9 := hide (below_next B8.out hb9)
        have hl9 := X8.out.lt
        obtain ⟨⟨t0, t1, t2⟩, t3, t4, t5⟩ := X8.out.below hb9
        clear hG9 hb9
        go_wp2_with fail
        exact bodyPost_ret (v := .agg #[.int .i64 0, .int .i64 rep, .slice av9 V.length cv9]) (by simp [results, Tryz.results123, go_sem, t0, t1, t2]) rfl ⟨rep, V, HCP.out, ResG.of hl9 (Nat.le_refl _) rfl G9.out B9.out⟩
end Go.Proofs.YtolnlfnndnpiiaaGreat

namespace Go.Proofs.YtolnlfnndnpiiaaGreat
open Go.RowKit Go.Maps
set_option linter.unusedVariables false
attribute [local go_sem ↓] Go.wp_at_zero Go.wp_at_succ

structure FaceM (A : Int) (P : Int → List En → Prop) (q rep : Int) (V : List En) : Prop where
  bad : A ≠ 0 → q = A ∧ rep = 0 ∧ V = []
  good : A = 0 → q = 0 ∧ P rep V
theorem FaceM.no {A : Int} {P : Int → List En → Prop} (h : A ≠ 0) : FaceM A P A 0 [] := ⟨fun _ => ⟨rfl, rfl, rfl⟩, fun h2 => absurd h2 h⟩
theorem FaceM.yes {A : Int} {P : Int → List En → Prop} {rep : Int} {V : List En} (h : A = 0) (hP : P rep V) : FaceM A P 0 rep V := ⟨fun h2 => absurd h h2, fun _ => ⟨rfl, hP⟩⟩
set_option maxRecDepth 100000 in
set_option maxHeartbeats 6400000 in
theorem specMakeOver_any (a : Option Addr) (c n : Nat) (ls : List (List En)) (u : Option Addr) (uc m : Nat) (U : List En) (p : Bs) (w : World) (h : RdL w a ls) (hn : n = ls.length) (hl : ls.length ≤ 1000000) (hU : RdE w u U) (hm : m = U.length) (hs : SmallL (ls ++ [U])) (hg : ∀ es ∈ ls ++ [U], layFault es = layFaultP es) (hpl : p.length ≤ 1048576) :
    Calls Tryz.prog 75 #[.slice a n c, .slice u m uc, .string (str p)] w fun r w' => ∃ q rep V, FaceM (askL (ls ++ [U]) p) (MkS (allE (ls ++ [U])) U p) q rep V ∧ ResG q rep V w r w' := by
  subst hn
  subst hm
  have X0 := hide (Box3.new w (.int .i64 0) (.int .i64 0) (.slice none 0 0) 64)
  have B0 := hide (below_alloc w (.cells #[.int .i64 0, .int .i64 0, .slice none 0 0] 64))
  have HAS := hide (l9Asked_any a c ls.length ls u uc U.length U p _ (h.below B0.out) rfl hl (hU.below B0.out) rfl hs hg hpl)
  have HU := hide hU
  have HRD := hide h
  clear h hU hs hg
  obtain ⟨al, hal⟩ : ∃ al, al = ls ++ [U] := ⟨_, rfl⟩
  obtain ⟨PP, hPP⟩ : ∃ PP : Int → List En → Prop, PP = MkS (allE (ls ++ [U])) U p := ⟨_, rfl⟩
  rw [← hPP]
  rw [← hal] at HAS ⊢
  have HALL := hide hal
  have HPP := hide hPP
  clear hal hPP
  by_cases hz : askL al p = 0
  · obtain ⟨h4, hRs, hp⟩ := askL_right hz
    have HC := hide hz
    rw [HALL.out] at h4 hRs
    have HPT := hide (fun v (hv : Below w.heap.size w v) => l9Make_any a c ls.length ls u uc U.length U p v (HRD.out.below hv) rfl (HU.out.below hv) rfl h4 hRs hp hpl)
    rw [hz] at HAS
    clear hz hRs hp h4
    go_enter Tryz.func75, Tryz.ntmps75
    go_wp2_with fail
    refine HAS.out.mono ?_
    rintro r w2 ⟨rfl, hb2⟩
    have X2 := hide (X0.out.below hb2)
    have B2 := hide (below_next B0.out hb2)
    have hl2 := X2.out.lt
    clear hb2 X0 B0 HAS
    go_wp2_with fail
    refine (HPT.out w2 B2.out).mono ?_
    rintro r w3 ⟨rep, V, hV, av3, cv3, rfl, hG3, hb3⟩
    have HV := hide (FaceM.yes (P := PP) HC.out (by rw [HPP.out]; exact hV))
    have G3 := hide hG3
    have B3 := hide (below_next B2.out hb3)
    obtain ⟨⟨t0, t1, t2⟩, t3, t4, t5⟩ := X2.out.below hb3
    clear hV hG3 hb3 HPT
    go_wp2_with fail
    exact bodyPost_ret (v := .agg #[.int .i64 0, .int .i64 rep, .slice av3 V.length cv3]) (by simp [results, Tryz.results75, go_sem, t0, t1, t2]) rfl ⟨0, rep, V, HV.out, ResG.of hl2 (Nat.le_refl _) rfl G3.out B3.out⟩
  · have HZ := hide (FaceM.no (P := PP) hz)
    generalize askL al p = F at *
    have hz2 : (F != 0) = true := by simp; exact hz
    clear hz
    go_enter Tryz.func75, Tryz.ntmps75
    go_wp2_with fail
    refine HAS.out.mono ?_
    rintro r w2 ⟨rfl, hb2⟩
    have B2 := hide (below_next B0.out hb2)
    obtain ⟨⟨t0, t1, t2⟩, t3, t4, t5⟩ := X0.out.below hb2
    clear hb2
    go_wp2_with fail
    exact bodyPost_ret (v := .agg #[.int .i64 F, .int .i64 0, .slice none 0 0]) (by simp [results, Tryz.results75, go_sem, t0, t1, t2]) rfl ⟨F, 0, [], HZ.out, ResG.of (b := w.heap.size) (Nat.lt_succ_self _) (Nat.le_refl _) rfl (GW.nil _ _) B2.out⟩
set_option maxRecDepth 100000 in
set_option maxHeartbeats 6400000 in
theorem specRemoveOver_any (a : Option Addr) (c n : Nat) (ls : List (List En)) (u : Option Addr) (uc m : Nat) (U : List En) (p : Bs) (w : World) (h : RdL w a ls) (hn : n = ls.length) (hl : ls.length ≤ 1000000) (hU : RdE w u U) (hm : m = U.length) (hs : SmallL (ls ++ [U])) (hg : ∀ es ∈ ls ++ [U], layFault es = layFaultP es) (hpl : p.length ≤ 1048576) :
    Calls Tryz.prog 76 #[.slice a n c, .slice u m uc, .string (str p)] w fun r w' => ∃ q rep V, FaceM (askL (ls ++ [U]) p) (RmS ls (allE (ls ++ [U])) U p) q rep V ∧ ResG q rep V w r w' := by
  subst hn
  subst hm
  have X0 := hide (Box3.new w (.int .i64 0) (.int .i64 0) (.slice none 0 0) 64)
  have B0 := hide (below_alloc w (.cells #[.int .i64 0, .int .i64 0, .slice none 0 0] 64))
  have HAS := hide (l9Asked_any a c ls.length ls u uc U.length U p _ (h.below B0.out) rfl hl (hU.below B0.out) rfl hs hg hpl)
  have HU := hide hU
  have HRD := hide h
  clear h hU hs hg
  obtain ⟨al, hal⟩ : ∃ al, al = ls ++ [U] := ⟨_, rfl⟩
  obtain ⟨PP, hPP⟩ : ∃ PP : Int → List En → Prop, PP = RmS ls (allE (ls ++ [U])) U p := ⟨_, rfl⟩
  rw [← hPP]
  rw [← hal] at HAS ⊢
  have HALL := hide hal
  have HPP := hide hPP
  clear hal hPP
  by_cases hz : askL al p = 0
  · obtain ⟨h4, hRs, hp⟩ := askL_right hz
    have HC := hide hz
    rw [HALL.out] at h4 hRs
    have HPT := hide (fun v (hv : Below w.heap.size w v) => l9Remove_any a c ls.length ls u uc U.length U p v (HRD.out.below hv) rfl (HU.out.below hv) rfl h4 hRs hp hpl)
    rw [hz] at HAS
    clear hz hRs hp h4
    go_enter Tryz.func76, Tryz.ntmps76
    go_wp2_with fail
    refine HAS.out.mono ?_
    rintro r w2 ⟨rfl, hb2⟩
    have X2 := hide (X0.out.below hb2)
    have B2 := hide (below_next B0.out hb2)
    have hl2 := X2.out.lt
    clear hb2 X0 B0 HAS
    go_wp2_with fail
    refine (HPT.out w2 B2.out).mono ?_
    rintro r w3 ⟨rep, V, hV, av3, cv3, rfl, hG3, hb3⟩
    have HV := hide (FaceM.yes (P := PP) HC.out (by rw [HPP.out]; exact hV))
    have G3 := hide hG3
    have B3 := hide (below_next B2.out hb3)
    obtain ⟨⟨t0, t1, t2⟩, t3, t4, t5⟩ := X2.out.below hb3
    clear hV hG3 hb3 HPT
    go_wp2_with fail
    exact bodyPost_ret (v := .agg #[.int .i64 0, .int .i64 rep, .slice av3 V.length cv3]) (by simp [results, Tryz.results76, go_sem, t0, t1, t2]) rfl ⟨0, rep, V, HV.out, ResG.of hl2 (Nat.le_refl _) rfl G3.out B3.out⟩
  · have HZ := hide (FaceM.no (P := PP) hz)
    generalize askL al p = F at *
    have hz2 : (F != 0) = true := by simp; exact hz
    clear hz
    go_enter Tryz.func76, Tryz.ntmps76
    go_wp2_with fail
    refine HAS.out.mono ?_
    rintro r w2 ⟨rfl, hb2⟩
    have B2 := hide (below_next B0.out hb2)
    obtain ⟨⟨t0, t1, t2⟩, t3, t4, t5⟩ := X0.out.below hb2
    clear hb2
    go_wp2_with fail
    exact bodyPost_ret (v := .agg #[.int .i64 F, .int .i64 0, .slice none 0 0]) (by simp [results, Tryz.results76, go_sem, t0, t1, t2]) rfl ⟨F, 0, [], HZ.out, ResG.of (b := w.heap.size) (Nat.lt_succ_self _) (Nat.le_refl _) rfl (GW.nil _ _) B2.out⟩
def wovM (ls : List (List En)) (p : Bs) (zs : List Int) : Int := if askL ls p = 0 then (if 24 < zs.length then 2 else 0) else askL ls p
set_option maxRecDepth 100000 in
set_option maxHeartbeats 6400000 in
theorem specWriteOver_any (a : Option Addr) (c n : Nat) (ls : List (List En)) (u : Option Addr) (uc m : Nat) (U : List En) (p : Bs) (zs : List Int) (d : Option Addr) (dn dc : Nat) (w : World) (h : RdL w a ls) (hn : n = ls.length) (hl : ls.length ≤ 1000000) (hU : RdE w u U) (hm : m = U.length) (hs : SmallL (ls ++ [U])) (hg : ∀ es ∈ ls ++ [U], layFault es = layFaultP es) (hpl : p.length ≤ 1048576) (hd : Reads .u8 w d zs) (hdn : dn = zs.length) (hu8 : U8 zs) (hdc : zs.length ≤ dc) (hdl : zs.length ≤ 1048576) :
    Calls Tryz.prog 74 #[.slice a n c, .slice u m uc, .string (str p), .slice d dn dc] w fun r w' => ∃ q rep V, FaceM (wovM (ls ++ [U]) p zs) (WrS (allE (ls ++ [U])) U p (fileE p zs)) q rep V ∧ ResG q rep V w r w' := by
  subst hn
  subst hm
  have X0 := hide (Box3.new w (.int .i64 0) (.int .i64 0) (.slice none 0 0) 64)
  have B0 := hide (below_alloc w (.cells #[.int .i64 0, .int .i64 0, .slice none 0 0] 64))
  have HAS := hide (l9Asked_any a c ls.length ls u uc U.length U p _ (h.below B0.out) rfl hl (hU.below B0.out) rfl hs hg hpl)
  have HU := hide hU
  have HRD := hide h
  subst hdn
  have HD := hide hd
  have HU8 := hide hu8
  clear hd hu8
  clear h hU hs hg
  obtain ⟨al, hal⟩ : ∃ al, al = ls ++ [U] := ⟨_, rfl⟩
  obtain ⟨PP, hPP⟩ : ∃ PP : Int → List En → Prop, PP = WrS (allE (ls ++ [U])) U p (fileE p zs) := ⟨_, rfl⟩
  rw [← hPP]
  rw [← hal] at HAS ⊢
  have HALL := hide hal
  have HPP := hide hPP
  clear hal hPP
  by_cases hz : askL al p = 0
  · obtain ⟨h4, hRs, hp⟩ := askL_right hz
    have HC := hide hz
    rw [HALL.out] at h4 hRs
    rw [hz] at HAS
    by_cases hbig : 24 < zs.length
    · have HZ := hide (FaceM.no (P := PP) (A := wovM al p zs) (by rw [wovM, if_pos hz, if_pos hbig]; decide))
      rw [show wovM al p zs = 2 by rw [wovM, if_pos hz, if_pos hbig]] at HZ ⊢
      have hbi : (24 : Int) < (zs.length : Int) := by omega
      clear hz hRs hp h4 hbig
      go_enter Tryz.func74, Tryz.ntmps74
      go_wp2_with fail
      refine HAS.out.mono ?_
      rintro r w2 ⟨rfl, hb2⟩
      have B2 := hide (below_next B0.out hb2)
      obtain ⟨⟨t0, t1, t2⟩, t3, t4, t5⟩ := X0.out.below hb2
      clear hb2
      go_wp2_with fail
      exact bodyPost_ret (v := .agg #[.int .i64 2, .int .i64 0, .slice none 0 0]) (by simp [results, Tryz.results74, go_sem, t0, t1, t2]) rfl ⟨2, 0, [], HZ.out, ResG.of (b := w.heap.size) (Nat.lt_succ_self _) (Nat.le_refl _) rfl (GW.nil _ _) B2.out⟩
    · have HPT := hide (fun v (hv : Below w.heap.size w v) => l9Write_any a c ls.length ls u uc U.length U p zs d dc v (HRD.out.below hv) rfl (HU.out.below hv) rfl h4 hRs hp hpl (HD.out.below hv) HU8.out hdc (by omega))
      have HC0 := hide (show wovM al p zs = 0 by rw [wovM, if_pos hz, if_neg hbig])
      have hbi : ¬ (24 : Int) < (zs.length : Int) := by omega
      clear hz hRs hp h4 hbig
      go_enter Tryz.func74, Tryz.ntmps74
      go_wp2_with fail
      refine HAS.out.mono ?_
      rintro r w2 ⟨rfl, hb2⟩
      have X2 := hide (X0.out.below hb2)
      have B2 := hide (below_next B0.out hb2)
      have hl2 := X2.out.lt
      clear hb2 X0 B0 HAS
      go_wp2_with fail
      refine (HPT.out w2 B2.out).mono ?_
      rintro r w3 ⟨rep, V, hV, av3, cv3, rfl, hG3, hb3⟩
      have HV := hide (FaceM.yes (P := PP) HC0.out (by rw [HPP.out]; exact hV))
      have G3 := hide hG3
      have B3 := hide (below_next B2.out hb3)
      obtain ⟨⟨t0, t1, t2⟩, t3, t4, t5⟩ := X2.out.below hb3
      clear hV hG3 hb3 HPT
      go_wp2_with fail
      exact bodyPost_ret (v := .agg #[.int .i64 0, .int .i64 rep, .slice av3 V.length cv3]) (by simp [results, Tryz.results74, go_sem, t0, t1, t2]) rfl ⟨0, rep, V, HV.out, ResG.of hl2 (Nat.le_refl _) rfl G3.out B3.out⟩
  · rw [show wovM al p zs = askL al p by rw [wovM, if_neg hz]]
    have HZ := hide (FaceM.no (P := PP) hz)
    generalize askL al p = F at *
    have hz2 : (F != 0) = true := by simp; exact hz
    clear hz
    go_enter Tryz.func74, Tryz.ntmps74
    go_wp2_with fail
    refine HAS.out.mono ?_
    rintro r w2 ⟨rfl, hb2⟩
    have B2 := hide (below_next B0.out hb2)
    obtain ⟨⟨t0, t1, t2⟩, t3, t4, t5⟩ := X0.out.below hb2
    clear hb2
    go_wp2_with fail
    exact bodyPost_ret (v := .agg #[.int .i64 F, .int .i64 0, .slice none 0 0]) (by simp [results, Tryz.results74, go_sem, t0, t1, t2]) rfl ⟨F, 0, [], HZ.out, ResG.of (b := w.heap.size) (Nat.lt_succ_self _) (Nat.le_refl _) rfl (GW.nil _ _) B2.out⟩
end Go.Proofs.YtolnlfnndnpiiaaGreat

