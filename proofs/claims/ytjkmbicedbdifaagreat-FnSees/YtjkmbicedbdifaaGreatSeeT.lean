/-
  The program's listOverFault and ListOver.
-/
import Derived.Test.YtjkmbicedbdifaaGreatSeeI
import Derived.Test.YtjkmbicedbdifaaGreatSeeS
import Derived.Test.YtjkmbicedbdifaaGreatTreD
namespace Go.Proofs.YtjkmbicedbdifaaGreat
open Go.RowKit Go.Maps
set_option linter.unusedVariables false
attribute [local go_sem ↓] Go.wp_at_zero Go.wp_at_succ

/-- What listOverFault answers. -/
def lovC (es : List (List En)) (p : Bs) : Int :=
  if p = [47] then layersP es else if plcC es p = 0 then (match findE (allE es) p with | some e => if e.kind = 2 then 0 else 9 | none => 0) else plcC es p
def lovL (es : List (List En)) (p : Bs) : List Bs := if lovC es p = 0 then namesE (allE es) (topQ p) else []
theorem plc_ask {es : List (List En)} {p : Bs} (h : plcC es p = 0) : askL es p = 0 := by
  unfold plcC at h
  by_cases h0 : askL es p = 0
  · exact h0
  · rw [if_neg h0] at h; exact h
theorem lookL_one {es : List (List En)} {p : Bs} (h : plcC es p = 0) : ∃ e, findE (allE es) p = some e ∧ lookL es p = [e] := by
  obtain ⟨h1, h2⟩ := look_all (plc_ask h)
  rw [h1] at h
  cases hf : findE (allE es) p with
  | none => rw [hf] at h; simp at h
  | some e => exact ⟨e, rfl, by rw [h2, hf]; rfl⟩
theorem ask_zero {es : List (List En)} {p : Bs} (h : askL es p = 0) : layersP es = 0 ∧ faultP p = 0 := by
  unfold askL at h
  by_cases h1 : layersP es = 0
  · rw [if_pos h1] at h; exact ⟨h1, h⟩
  · rw [if_neg h1] at h; exact absurd h h1
theorem lov_tree {es : List (List En)} {p : Bs} (h : lovC es p = 0) : layersP es = 0 ∧ (p = [47] ∨ faultP p = 0) := by
  unfold lovC at h
  by_cases h0 : p = [47]
  · rw [if_pos h0] at h; exact ⟨h, .inl h0⟩
  · rw [if_neg h0] at h
    by_cases h1 : plcC es p = 0
    · have := ask_zero (plc_ask h1)
      exact ⟨this.1, .inr this.2⟩
    · rw [if_neg h1] at h; exact absurd h h1
theorem inP_asT (p : Bs) (e : En) : inP p (asT e) = inP p e := by unfold inP; rw [asT_path]
theorem rs_kids {rs T : List En} {p : Bs} (h : rs.map asT = T) (hT : FitT T) (hp : p = [47] ∨ faultP p = 0) : ((rs.filter (inP p)).map fun e => lastP e.path) = namesE T (topQ p) := by
  have h1 : T.filter (inP p) = kidsE T (topQ p) := List.filter_congr fun x hx => inP_right hp (hT.fit.path hx)
  have h2 : T.filter (inP p) = (rs.filter (inP p)).map asT := by
    rw [← h, List.filter_map]
    congr 1
    exact List.filter_congr fun x _ => inP_asT p x
  unfold namesE
  rw [← h1, h2, List.map_map]
  exact List.map_congr_left fun e _ => by simp [asT_path]

set_option maxRecDepth 100000 in
set_option maxHeartbeats 1600000 in
theorem listOverFault_any (a : Option Addr) (c n : Nat) (es : List (List En)) (p : Bs) (w : World) (h : RdL w a es) (hn : n = es.length) (hl : es.length ≤ 1048576) (hs : SmallL es) (hp : p.length ≤ 1048576) :
    Calls Tryz.prog 48 #[.slice a n c, .string (str p)] w fun r w' => r = .returned (.int .i64 (lovC es p)) ∧ Below w.heap.size w w' := by
  subst hn
  have HR := hide h
  have HS := hide hs
  clear h hs
  have hs1 : ((str p).toList == [47]) = decide (p = [47]) := by rw [str_toList]; by_cases h47 : p = [47] <;> simp [h47]
  by_cases h0 : p = [47]
  · rw [decide_eq_true h0] at hs1
    have HC := hide (show lovC es p = layersP es from by rw [lovC, if_pos h0])
    clear h0
    go_enter Tryz.func48, Tryz.ntmps48
    go_wp2_with fail
    refine (implLayersFault_any a c es.length es w HR.out rfl hl HS.out).mono ?_
    rintro r w1 ⟨rfl, hb1⟩
    rw [← HC.out]
    have B1 := hide hb1
    clear hb1
    go_wp2_with fail
    go_ret
    exact ⟨rfl, B1.out⟩
  · rw [decide_eq_false h0] at hs1
    have HC := hide (show lovC es p = if plcC es p = 0 then (match findE (allE es) p with | some e => if e.kind = 2 then 0 else 9 | none => 0) else plcC es p from by rw [lovC, if_neg h0])
    clear h0
    go_enter Tryz.func48, Tryz.ntmps48
    go_wp2_with fail
    refine (implLookOver_any a c es.length es p w HR.out rfl hl HS.out hp).mono ?_
    rintro r w1 ⟨av, cv, rfl, hG, hb1⟩
    by_cases hz : plcC es p = 0
    · obtain ⟨e, hfe, hsl⟩ := lookL_one hz
      have hll : (lookL es p).length = 1 := by rw [hsl]; rfl
      rw [hll, hsl] at hG
      rw [hz, hll]
      have HC2 := hide (show lovC es p = if e.kind = 2 then 0 else 9 from by rw [HC.out, if_pos hz, hfe])
      obtain ⟨g, rfl, -⟩ := hG.addr rfl (.inl (by decide))
      have B0 := hide (below_alloc w1 (.cells #[.int .i64 0, .slice (some ⟨g, 0, none⟩) 1 cv] 36))
      have B1 := hide (below_next hb1 B0.out)
      obtain ⟨b, off, e', x, cc, hbb, hb, he, c0, c1, c2, c3, hr⟩ := hG.rd.at (k := 0) (by simp)
      simp only [Option.some.injEq, Addr.mk.injEq, and_true] at hbb
      obtain ⟨rfl, rfl⟩ := hbb
      simp only [List.getElem?_cons_zero, Option.some.injEq] at he
      subst he
      have c1' := (B0.out.cell (p := ⟨g, 1, none⟩) hb).trans (show w1.cell? ⟨g, 1, none⟩ = some (.int .i64 e.kind) by simpa using c1)
      clear hr c0 c1 c2 c3 hz hfe hsl hll hG hb1 HC
      by_cases hk : e.kind = 2
      · have hb2 : (e.kind != 2) = false := by simp [hk]
        have HZ := hide (show lovC es p = 0 from by rw [HC2.out, if_pos hk])
        clear hk HC2
        go_wp2_with fail
        go_ret
        exact ⟨ret_int HZ.out.symm, B1.out⟩
      · have hb2 : (e.kind != 2) = true := by simp [hk]
        have HZ := hide (show lovC es p = 9 from by rw [HC2.out, if_neg hk])
        clear hk HC2
        go_wp2_with fail
        go_ret
        exact ⟨ret_int HZ.out.symm, B1.out⟩
    · have HZ := hide (show lovC es p = plcC es p from by rw [HC.out, if_neg hz])
      have hz2 : (plcC es p != 0) = true := by simp; exact hz
      generalize plcC es p = F at *
      generalize lookL es p = L at *
      have B1 := hide (below_next hb1 (below_alloc w1 (.cells #[.int .i64 F, .slice av L.length cv] 36)))
      clear hz HC hG hb1
      go_wp2_with fail
      go_ret
      exact ⟨ret_int HZ.out.symm, B1.out⟩

set_option maxRecDepth 100000 in
set_option maxHeartbeats 1600000 in
theorem implListOver_any (a : Option Addr) (c n : Nat) (es : List (List En)) (p : Bs) (w : World) (h : RdL w a es) (hn : n = es.length) (hl : es.length ≤ 1048576) (hs : SmallL es) (hp : p.length ≤ 1048576) :
    Calls Tryz.prog 16 #[.slice a n c, .string (str p)] w (ResN (lovC es p) (lovL es p) w) := by
  subst hn
  obtain ⟨i1, ki, kz0, kz1, kz2⟩ := info_parts infoS
  have X0 := hide (Box.new w (.int .i64 0) (.slice none 0 0) 28)
  have B0 := hide (below_alloc w (.cells #[.int .i64 0, .slice none 0 0] 28))
  have HR := hide h
  have HS := hide hs
  clear h hs
  go_enter Tryz.func16, Tryz.ntmps16
  go_wp2_with fail
  refine (listOverFault_any a c es.length es p _ (HR.out.below B0.out) rfl hl HS.out hp).mono ?_
  rintro r w1 ⟨rfl, hb1⟩
  have B1 := hide (below_next B0.out hb1)
  have X1 := hide (X0.out.below hb1)
  clear hb1 X0 B0
  by_cases hz : lovC es p = 0
  · obtain ⟨hz0, hpp⟩ := lov_tree hz
    obtain ⟨h4, hRs⟩ := layersP_zero.1 hz0
    have HCC := hide (show lovC es p = 0 ∧ lovL es p = namesE (allE es) (topQ p) from ⟨hz, by rw [lovL, if_pos hz]⟩)
    have HRr := hide hRs
    have HRs := hide (rights_sight hRs HS.out)
    have HPP := hide hpp
    rw [hz]
    clear hz hz0 hRs hpp
    have hb0 : w.heap.size < w1.heap.size := X1.out.1.lt
    go_wp2_with fail
    refine (sightOf_any a c es.length es w1 (HR.out.below B1.out) rfl h4 HRs.out).mono ?_
    rintro r w2 ⟨b, N, rfl, hbb, hN, hM, hb2⟩
    have HM := hide hM
    have BB2 := hide hb2
    clear hM hb2
    go_wp2_with fail
    refine (seen_any b N (seeL es) w1 w2 HM.out).mono ?_
    rintro r w3 ⟨b3, rfl, hb3b, hM3, hb3⟩
    have HM3 := hide hM3
    have BB3 := hide (below_next BB2.out hb3)
    clear hM3 hb3 HM BB2
    go_wp2_with fail
    refine (rising_any b3 N (leftS (seeL es)) w1 w3 HM3.out (by omega) left_one BB3.out).mono ?_
    rintro r w4 ⟨av, cv, rs, rfl, hri, hmem, hRI, hb4⟩
    have BB4 := hide (below_next BB3.out hb4)
    have hall := all_rise HRr.out h4 hri (fun e => (hmem e).trans (left_all HS.out e))
    have HKN := hide (rs_kids hall (all_fit (rights_fit HRr.out)) HPP.out)
    have HKM := hide (show SmallE rs ∧ ∀ e ∈ rs, faultP e.path = 0 from ⟨fun e he => by
      obtain ⟨k, s1, e1⟩ := (left_all HS.out e).1 ((hmem e).1 he)
      obtain ⟨es', hes, hee, -⟩ := seeL_mem e1
      exact (HS.out es' hes).2 e hee, fun e he => by
      obtain ⟨k, s1, e1⟩ := (left_all HS.out e).1 ((hmem e).1 he)
      obtain ⟨es', hes, hee, -⟩ := seeL_mem e1
      exact (rights_fit HRr.out es' hes).path hee⟩)
    have hrl : rs.length ≤ 48 := by
      have h1 := all_len HRr.out es.length (Nat.le_refl _)
      rw [List.take_length, ← hall, List.length_map] at h1
      omega
    have RI := hide hRI
    clear hri hmem hRI hb4 HM3 BB3 hall
    go_wp2_with fail
    refine (isIn_any p _).mono ?_
    rintro r w5 ⟨rfl, hb5, hA⟩
    have HA := hide hA
    have RI3 := hide (RI.out.below hb5)
    have BB5 := hide (below_next BB4.out hb5)
    clear hA hb5 RI BB4
    go_wp2_with fail
    refine (those_any av cv rs.length rs _ _ _ _ RI3.out rfl (by omega) HKM.out.1 HA.out).mono ?_
    obtain ⟨ks, hks⟩ : ∃ ks, ks = rs.filter (inP p) := ⟨_, rfl⟩
    rw [← hks]
    have HN := hide (show namesE (allE es) (topQ p) = ks.map fun e => lastP e.path from by rw [hks]; exact HKN.out.symm)
    have HKS := hide (show ∀ e ∈ ks, faultP e.path = 0 ∧ e.path.length ≤ 1048576 from fun e he => by
      rw [hks] at he
      have := (List.mem_filter.1 he).1
      exact ⟨HKM.out.2 e this, (HKM.out.1 e this).1⟩)
    have hkl : ks.length ≤ 48 := by rw [hks]; have := List.length_filter_le (inP p) rs; omega
    clear hks HKN HKM
    rintro r w4 ⟨av4, cv4, rfl, hL4, hb4⟩
    have RK := hide (hL4.rd hb4)
    have BB6 := hide (below_next BB5.out hb4)
    have hs4 := BB6.out.size
    clear hL4 hb4 BB5 RI3 HA
    go_wp2_with fail
    go_loopw [6, 24] (fun v i wr => ∃ k : Nat, k ≤ ks.length ∧ i = .int .i64 k ∧ Hid (OwnS w4.heap.size wr v ((ks.take k).map fun e => lastP e.path)) ∧ Hid (Below w4.heap.size w4 wr)) (fun _ i _ => ks.length - (intOf i).toNat)
    case atStart => exact ⟨0, Nat.zero_le _, rfl, hide (OwnS.nil _ _), hide (Below.refl _ _)⟩
    case round =>
      obtain ⟨k, hk, rfl, HO, HW⟩ := hrel
      have hsz := HW.out.size
      obtain ⟨lv, lc, hv⟩ := HO.out.shape
      have hln : ((ks.take k).map fun e => lastP e.path).length = k := by rw [List.length_map, List.length_take]; omega
      rw [hln] at hv
      subst hv
      by_cases hlt : k < ks.length
      · obtain ⟨b, off, e, x, cc, rfl, hb, he, c0, c1, c2, c3, hr⟩ := (RK.out.below HW.out).at hlt
        obtain ⟨hpf, hpl⟩ := HKS.out e (List.mem_of_getElem? he)
        have HX := hide he
        have HLA := hide (show lastT (str e.path).data.toList = lastP e.path from by rw [str_data]; exact lastT_right hpf)
        clear he hr hpf
        have BA := hide (below_alloc wr (.cells #[.int .i64 e.size, .slice x e.chunks.length cc, .string (str e.path), .int .i64 e.kind] 64))
        go_wp2_with fail
        refine (implLastOf_any (str e.path) _ (by rw [str_size]; omega)).mono ?_
        rintro r w5 ⟨rfl, hb5⟩
        rw [HLA.out]
        generalize faultP (str e.path).data.toList = FP
        have hfd : ∀ (w : World), (Instr.field 89 (.agg #[.int .i64 FP, .string (str (lastP e.path))]) 1).run Tryz.prog w = .ok (.string (str (lastP e.path))) w := fun _ => by kernel_rfl
        have HW5 := hide (below_next HW.out (below_next BA.out hb5))
        have O5 : Hid (w5.ownsRow w4.heap.size 9 1 (.slice lv k lc) k (((ks.take k).map fun e => lastP e.path).map vS)) := by have := HO.out.below (below_next BA.out hb5); unfold OwnS at this; rw [hln] at this; exact this
        have hsz5 := HW5.out.size
        have HLn := hide hln
        have hm1 : k + 1 ≤ maxLen := by unfold maxLen; omega
        have hm2 : (k + 1) * 16 ≤ 140737488355328 := by omega
        clear hb5 hln HO HW BA c0 c1 c2 c3
        go_wp2_with (at_builtin; refine wpList_append_one rfl (.tmp 28) (.tmp 33) 26 rfl w4.heap.size 9 i1 (.string ⟨#[]⟩) 1 16 Tryz.underlying26 ki kz0 kz1 kz2 rfl (by decide) _ _ _ rfl O5.out rfl rfl (by intro u hu; simp at hu; subst hu; rfl) hm1 hm2 hsz5 ?_; intro v' w6 hown6 hkept; have O6 := hide (show OwnS w4.heap.size w6 v' (((ks.take k).map fun e => lastP e.path) ++ [lastP e.path]) from OwnS.snoc (by rw [HLn.out]; exact hown6) rfl); have K6 := hide hkept; clear hown6 hkept)
        go_roundw
        case rel =>
          refine ⟨k + 1, by omega, by go_num, hide ?_, hide ?_⟩
          · rw [take_snoc_at HX.out, List.map_append]; exact O6.out
          · exact Kept.below_own HW5.out hsz5 O5.out K6.out
        case measure => simp [intOf]; omega
      · have hke : k = ks.length := by omega
        have HO2 : Hid (OwnS w4.heap.size wr (.slice lv k lc) (namesE (allE es) (topQ p))) := by have := HO.out; rw [List.take_of_length_le (by omega)] at this; rw [HN.out]; exact this
        have HLn := hide (show k = (namesE (allE es) (topQ p)).length from by rw [HN.out, List.length_map]; exact hke)
        have BB5 := hide (below_next BB6.out HW.out)
        obtain ⟨⟨t0, t1⟩, t2, t3⟩ := X1.out.below BB5.out
        have B5 := hide (below_next B1.out BB5.out)
        clear hke hln
        go_wp2_with fail
        exact bodyPost_ret (v := .agg #[.int .i64 0, .slice lv k lc]) (by simp [results, Tryz.results16, go_sem, t0, t1]) rfl (by rw [HCC.out.1, HCC.out.2]; exact ResN.of (by omega) (Nat.le_refl _) HLn.out HO2.out B5.out)
  · have HCC := hide (show lovL es p = [] from by rw [lovL, if_neg hz])
    generalize lovC es p = F at *
    have hz2 : (F != 0) = true := by simp; exact hz
    clear hz
    obtain ⟨⟨t0, t1⟩, t2, t3⟩ := X1.out
    go_wp2_with fail
    exact bodyPost_ret (v := .agg #[.int .i64 F, .slice none 0 0]) (by simp [results, Tryz.results16, go_sem, t0, t1]) rfl (by rw [HCC.out]; exact ResN.bad (Nat.le_refl _) B1.out)

end Go.Proofs.YtjkmbicedbdifaaGreat
