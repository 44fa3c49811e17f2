/-
  The model's LayersFault and MergeAll.
-/
import Derived.Test.YtjkmbicedbdifaaGreatSeeJ
import Derived.Test.YtjkmbicedbdifaaGreatMerM
namespace Go.Proofs.YtjkmbicedbdifaaGreat
open Go.RowKit Go.Maps
set_option linter.unusedVariables false
attribute [local go_sem ↓] Go.wp_at_zero Go.wp_at_succ

set_option maxRecDepth 100000 in
set_option maxHeartbeats 3200000 in
theorem specLayersFault_any (a : Option Addr) (c n : Nat) (ls : List (List En)) (w : World) (h : RdL w a ls) (hn : n = ls.length) (hl : ls.length ≤ 1048576) (hs : SmallL ls) (hg : ∀ es ∈ ls, layFault es = layFaultP es) :
    Calls Tryz.prog 29 #[.slice a n c] w fun r w' => r = .returned (.int .i64 (layersP ls)) ∧ Below w.heap.size w w' := by
  subst hn
  have HR := hide h
  have HS := hide hs
  have HG := hide hg
  clear h hs hg
  by_cases h4 : 4 < ls.length
  · have HZ := hide (show layersP ls = 2 by simp [layersP, h4])
    have h4' : (4 : Int) < (ls.length : Int) := by omega
    go_enter Tryz.func29, Tryz.ntmps29
    go_wp2_with fail
    go_wp2_with fail
    go_ret
    exact ⟨by rw [HZ.out]; rfl, Below.refl _ _⟩
  · have HZ := hide (show layersP ls = lsFrom (ls.drop 0) by simp [layersP, h4])
    have h4' : ¬ (4 : Int) < (ls.length : Int) := by omega
    clear h4
    generalize layersP ls = V at *
    go_enter Tryz.func29, Tryz.ntmps29
    go_wp2_with fail
    go_loopw [3] (fun i wr => ∃ k : Nat, k ≤ ls.length ∧ i = .int .i64 k ∧ Hid (V = lsFrom (ls.drop k)) ∧ Hid (Below w.heap.size w wr)) (fun i _ => ls.length - (intOf i).toNat)
    case atStart => exact ⟨0, Nat.zero_le _, rfl, HZ, hide (Below.refl _ _)⟩
    case round =>
      obtain ⟨k, hk, rfl, HV, HW⟩ := hrel
      by_cases hlt : k < ls.length
      · obtain ⟨b, off, es, x, cc, rfl, hb, he, c0, hr⟩ := (HR.out.below HW.out).at hlt
        obtain ⟨hel, hsm⟩ := HS.out es (List.mem_of_getElem? he)
        have HLF := hide (l4Fault_any x cc es.length es wr hr rfl (by omega) hsm)
        rw [HG.out es (List.mem_of_getElem? he)] at HLF
        have HX := hide he
        clear he hr hsm
        by_cases hf : layFaultP es = 0
        · have HN := hide (HV.out.trans (lsFrom_next HX.out hf))
          rw [hf] at HLF
          clear hf
          go_wp2_with fail
          refine HLF.out.mono ?_
          rintro r w1 ⟨rfl, hb1⟩
          have B1 := hide (below_next HW.out hb1)
          clear hb1 c0
          go_wp2_with fail
          go_roundw
          case rel => exact ⟨k + 1, by omega, by go_num, HN, B1⟩
          case measure => simp [intOf]; omega
        · have HN := hide (HV.out.trans (lsFrom_bad HX.out hf))
          generalize layFaultP es = F at *
          have hf2 : (F != 0) = true := by simp; exact hf
          clear hf
          go_wp2_with fail
          refine HLF.out.mono ?_
          rintro r w1 ⟨rfl, hb1⟩
          have B1 := hide (below_next HW.out hb1)
          clear hb1 c0
          go_wp2_with fail
          go_ret
          exact ⟨by rw [HN.out]; rfl, B1.out⟩
      · have HN := hide (show V = 0 by rw [HV.out, List.drop_eq_nil_of_le (by omega)]; rfl)
        go_wp2_with fail
        go_ret
        exact ⟨by rw [HN.out]; rfl, HW.out⟩
set_option maxRecDepth 100000 in
set_option maxHeartbeats 3200000 in
theorem l7All_any (a : Option Addr) (c n : Nat) (ls : List (List En)) (w : World) (h : RdL w a ls) (hn : n = ls.length) (hz : layersP ls = 0) :
    Calls Tryz.prog 34 #[.slice a n c] w (ResT (malC ls) 0 (malL ls) w) := by
  subst hn
  obtain ⟨h4, hRs⟩ := layersP_zero.1 hz
  have X0 := hide (Box3.new w (.int .i64 0) (.int .i64 0) (.slice none 0 0) 32)
  have B0 := hide (below_alloc w (.cells #[.int .i64 0, .int .i64 0, .slice none 0 0] 32))
  have hlt0 : w.heap.size < (w.alloc (.cells #[.int .i64 0, .int .i64 0, .slice none 0 0] 32)).heap.size := by simp
  have B1 := hide (below_next B0.out (below_alloc _ (.cells #[] 40)))
  have X1 := hide (X0.out.below (below_alloc _ (.cells #[] 40)))
  have G1 := hide (GE.made (w.alloc (.cells #[.int .i64 0, .int .i64 0, .slice none 0 0] 32)))
  have hsz1 : (w.alloc (.cells #[.int .i64 0, .int .i64 0, .slice none 0 0] 32)).heap.size = w.heap.size + 1 := by simp
  rw [hsz1] at G1
  clear hsz1
  have HR := hide h
  have HZ := hide hz
  have HRs := hide hRs
  have HFs := hide (rights_fit hRs)
  clear h hz hRs
  go_enter Tryz.func34, Tryz.ntmps34
  go_wp2_with fail
  go_loopw [3, 4] (fun v i wr => ∃ (k : Nat) (va : Option Addr) (vc : Nat), k ≤ ls.length ∧ i = .int .i64 k ∧ v = .slice va (allE (ls.take k)).length vc ∧ Hid (Box3 wr w.heap.size (.int .i64 0) (.int .i64 0) (.slice none 0 0)) ∧ Hid (GE (w.heap.size + 1) wr.heap.size wr (.slice va (allE (ls.take k)).length vc) (allE (ls.take k))) ∧ Hid (Below w.heap.size w wr) ∧ Hid (∀ j, j ≤ k → (allE (ls.take j)).length ≤ 40)) (fun _ i _ => ls.length - (intOf i).toNat)
  case atStart => exact ⟨0, _, _, Nat.zero_le _, rfl, rfl, X1, G1, B1, hide (fun j hj => by rw [Nat.le_zero.1 hj]; simp [allE])⟩
  case round =>
    obtain ⟨k, va, vc, hk, rfl, rfl, HX, HG, HW, HJ⟩ := hrel
    have hfk := (all_view HFs.out k hk).1
    have h40 := HJ.out k (Nat.le_refl _)
    by_cases hlt : k < ls.length
    · obtain ⟨bb, off, L, x, cc, rfl, hbb, he, c0, hr⟩ := (HR.out.below HW.out).at hlt
      have hRL := HRs.out L (List.mem_of_getElem? he)
      have HN := hide (all_next he)
      have hm := l7Merge_any va vc _ (allE (ls.take k)) x cc L.length L wr HG.out.rd rfl (by omega) hfk hr rfl hRL.len (right_fit.1 hRL).1
      rw [← HN.out] at hm
      have HM := hide hm
      have hsw := HX.out.lt
      clear hm hRL hr he hfk h40 HN
      by_cases hmany : 40 < (allE (ls.take (k + 1))).length
      · have HCC := hide (mal_many HZ.out (k := k + 1) (by omega) hmany)
        have hg40 : (40 : Int) < ((allE (ls.take (k + 1))).length : Int) := by omega
        clear hmany
        go_wp2_with fail
        refine HM.out.mono ?_
        rintro r w3 ⟨av3, cv3, rfl, hG3, hb3⟩
        have B3 := hide (below_next HW.out hb3)
        obtain ⟨⟨t0, t1, t2⟩, t3, t4, t5⟩ := HX.out.below hb3
        clear hG3 hb3 c0
        go_wp2_with fail
        exact bodyPost_ret (v := .agg #[.int .i64 2, .int .i64 0, .slice none 0 0]) (by simp [results, Tryz.results34, go_sem, t0, t1, t2]) rfl (by rw [HCC.out.1, HCC.out.2]; exact ResT.bad (Nat.le_refl _) B3.out)
      · have hg40 : ¬ (40 : Int) < ((allE (ls.take (k + 1))).length : Int) := by omega
        have HJ2 := hide (show ∀ j, j ≤ k + 1 → (allE (ls.take j)).length ≤ 40 from fun j hj => by
          by_cases e : j = k + 1
          · rw [e]; omega
          · exact HJ.out j (by omega))
        clear hmany HJ
        go_wp2_with fail
        refine HM.out.mono ?_
        rintro r w3 ⟨av3, cv3, rfl, hG3, hb3⟩
        have B3 := hide (below_next HW.out hb3)
        have X3 := hide (HX.out.below hb3)
        have G3 := hide (hG3.mono (B' := w.heap.size + 1) (by omega))
        clear hG3 hb3 c0
        go_wp2_with fail
        go_roundw
        case rel => exact ⟨k + 1, av3, cv3, by omega, by go_num, rfl, X3, G3, B3, HJ2⟩
        case measure => simp [intOf]; omega
    · have HE := hide (show ls.take k = ls from List.take_of_length_le (by omega))
      have HCC := hide (mal_ok HZ.out (fun j hj => HJ.out j (by omega)))
      rw [HE.out] at HG ⊢
      clear HJ h40 hfk HE
      obtain ⟨⟨t0, t1, t2⟩, t3, t4, t5⟩ := HX.out
      generalize allE ls = M at *
      go_wp2_with fail
      exact bodyPost_ret (v := .agg #[.int .i64 0, .int .i64 0, .slice va M.length vc]) (by simp [results, Tryz.results34, go_sem, t0, t1, t2]) rfl (by rw [HCC.out.1, HCC.out.2]; exact ResT.of (Nat.lt_succ_self _) (Nat.le_refl _) rfl HG.out HW.out)
set_option maxRecDepth 100000 in
set_option maxHeartbeats 3200000 in
theorem specMergeAll_any (a : Option Addr) (c n : Nat) (ls : List (List En)) (w : World) (h : RdL w a ls) (hn : n = ls.length) (hl : ls.length ≤ 1048576) (hs : SmallL ls) (hg : ∀ es ∈ ls, layFault es = layFaultP es) :
    Calls Tryz.prog 11 #[.slice a n c] w (ResT (malC ls) 0 (malL ls) w) := by
  subst hn
  have X0 := hide (Box3.new w (.int .i64 0) (.int .i64 0) (.slice none 0 0) 32)
  have B0 := hide (below_alloc w (.cells #[.int .i64 0, .int .i64 0, .slice none 0 0] 32))
  have HR := hide h
  have HLF := hide (specLayersFault_any a c ls.length ls _ (h.below B0.out) rfl hl hs hg)
  clear h hs hg
  by_cases hz : layersP ls = 0
  · have HZ := hide hz
    rw [hz] at HLF
    clear hz
    go_enter Tryz.func11, Tryz.ntmps11
    go_wp2_with fail
    refine HLF.out.mono ?_
    rintro r w1 ⟨rfl, hb1⟩
    have B1 := hide (below_next B0.out hb1)
    have X1 := hide (X0.out.below hb1)
    have hlt := X1.out.lt
    clear hb1
    go_wp2_with fail
    refine (l7All_any a c ls.length ls w1 (HR.out.below B1.out) rfl HZ.out).mono ?_
    rintro r w2 ⟨av, cv, rfl, hG, hb2⟩
    have G2 := hide hG
    have B2 := hide (below_next B1.out hb2)
    obtain ⟨⟨t0, t1, t2⟩, t3, t4, t5⟩ := X1.out.below hb2
    clear hG hb2
    go_wp2_with fail
    exact bodyPost_ret (v := .agg #[.int .i64 (malC ls), .int .i64 0, .slice av (malL ls).length cv]) (by simp [results, Tryz.results11, go_sem, t0, t1, t2]) rfl (ResT.of hlt (Nat.le_refl _) rfl G2.out B2.out)
  · have HC := hide (mal_bad hz)
    generalize layersP ls = F at *
    have hz2 : (F != 0) = true := by simp; exact hz
    clear hz
    go_enter Tryz.func11, Tryz.ntmps11
    go_wp2_with fail
    refine HLF.out.mono ?_
    rintro r w1 ⟨rfl, hb1⟩
    have B1 := hide (below_next B0.out hb1)
    obtain ⟨⟨t0, t1, t2⟩, t3, t4, t5⟩ := X0.out.below hb1
    clear hb1
    go_wp2_with fail
    exact bodyPost_ret (v := .agg #[.int .i64 F, .int .i64 0, .slice none 0 0]) (by simp [results, Tryz.results11, go_sem, t0, t1, t2]) rfl (by rw [HC.out.1, HC.out.2]; exact ResT.bad (Nat.le_refl _) B1.out)
end Go.Proofs.YtjkmbicedbdifaaGreat
