/-
  The program's PathsOver.
-/
import Derived.Test.YtjkmbicedbdifaaGreatSeeR
import Derived.Test.YtjkmbicedbdifaaGreatSeeI
import Derived.Test.YtjkmbicedbdifaaGreatJ3
import Derived.Test.YtjkmbicedbdifaaGreatTreD
namespace Go.Proofs.YtjkmbicedbdifaaGreat
open Go.RowKit Go.Maps
set_option linter.unusedVariables false
attribute [local go_sem ↓] Go.wp_at_zero Go.wp_at_succ

theorem leftS_some {S : Nat → Bs → Option En} {i : Nat} {p : Bs} {e : En} : leftS S i p = some e ↔ seenG S p 4 = some i ∧ S i p = some e := by
  unfold leftS goneS
  by_cases h : seenG S p 4 = some i <;> simp [h]
theorem left_one {ls : List (List En)} : OneP (leftS (seeL ls)) := by
  intro i j p q e f h1 h2 hpe
  obtain ⟨s1, e1⟩ := leftS_some.1 h1
  obtain ⟨s2, e2⟩ := leftS_some.1 h2
  obtain ⟨_, _, _, p1⟩ := seeL_mem e1
  obtain ⟨_, _, _, p2⟩ := seeL_mem e2
  have hpq : p = q := by rw [← p1, ← p2, hpe]
  subst hpq
  rw [s1] at s2
  rw [Option.some.inj s2]
theorem left_all {ls : List (List En)} (hsm : SmallL ls) (e : En) : (∃ i p, i ≤ 100 ∧ p.length ≤ 1048576 ∧ leftS (seeL ls) i p = some e) ↔ ∃ k, seenL ls e.path = some k ∧ seeL ls k e.path = some e := by
  constructor
  · rintro ⟨i, p, -, -, h⟩
    obtain ⟨s1, e1⟩ := leftS_some.1 h
    obtain ⟨_, _, _, p1⟩ := seeL_mem e1
    rw [p1]
    exact ⟨i, s1, e1⟩
  · rintro ⟨k, s1, e1⟩
    obtain ⟨es, hes, he, -⟩ := seeL_mem e1
    have hk := (seen_some (show seenG (seeL ls) e.path 4 = some k from s1)).1
    exact ⟨k, e.path, by omega, ((hsm es hes).2 e he).1, leftS_some.2 ⟨s1, e1⟩⟩
theorem all_len {ls : List (List En)} (h : ∀ es ∈ ls, Right es) : ∀ n, n ≤ ls.length → (allE (ls.take n)).length ≤ 12 * n
  | 0, _ => by simp [allE]
  | n + 1, hn => by
    have ih := all_len h n (by omega)
    have hL : ls[n]? = some (ls[n]'(by omega)) := List.getElem?_eq_getElem (by omega)
    have hm := (h _ (List.mem_of_getElem? hL)).len
    generalize ls[n]'(by omega) = L at *
    have ht : ls.take (n + 1) = ls.take n ++ [L] := by rw [List.take_add_one, hL]; rfl
    rw [ht, allE_snoc]
    have := merge_len L (allE (ls.take n))
    omega
/-- What PathsOver answers. -/
def pthL (ls : List (List En)) : List Bs := if layersP ls = 0 then (allE ls).map En.path else []

set_option maxRecDepth 100000 in
set_option maxHeartbeats 3200000 in
theorem implPathsOver_any (a : Option Addr) (c n : Nat) (ls : List (List En)) (w : World) (h : RdL w a ls) (hn : n = ls.length) (hl : ls.length ≤ 1048576) (hs : SmallL ls) :
    Calls Tryz.prog 7 #[.slice a n c] w (ResN (layersP ls) (pthL ls) w) := by
  subst hn
  obtain ⟨i1, ki, kz0, kz1, kz2⟩ := info_parts infoS
  have X0 := hide (Box.new w (.int .i64 0) (.slice none 0 0) 28)
  have B0 := hide (below_alloc w (.cells #[.int .i64 0, .slice none 0 0] 28))
  have HR := hide h
  have HSL := hide hs
  have HLF := hide (implLayersFault_any a c ls.length ls _ (h.below B0.out) rfl hl hs)
  clear h hs
  by_cases hz : layersP ls = 0
  · obtain ⟨h4, hRs⟩ := layersP_zero.1 hz
    rw [hz] at HLF ⊢
    have HRr := hide hRs
    have HRs := hide (rights_sight hRs HSL.out)
    have HCC := hide (show pthL ls = (allE ls).map En.path from by rw [pthL, if_pos hz])
    clear hz hRs
    go_enter Tryz.func7, Tryz.ntmps7
    go_wp2_with fail
    refine HLF.out.mono ?_
    rintro r w1 ⟨rfl, hb1⟩
    have B1 := hide (below_next B0.out hb1)
    have X1 := hide (X0.out.below hb1)
    have hlt1 : w.heap.size < w1.heap.size := X1.out.1.lt
    clear hb1 X0 B0 HLF
    go_wp2_with fail
    refine (sightOf_any a c ls.length ls w1 (HR.out.below B1.out) rfl h4 HRs.out).mono ?_
    rintro r w2 ⟨b, N, rfl, hbb, hN, hM, hb2⟩
    have HM := hide hM
    have BB2 := hide hb2
    clear hM hb2
    go_wp2_with fail
    refine (seen_any b N (seeL ls) w1 w2 HM.out).mono ?_
    rintro r w3 ⟨b3, rfl, hb3b, hM3, hb3⟩
    have HM3 := hide hM3
    have BB3 := hide (below_next BB2.out hb3)
    clear hM3 hb3 HM BB2
    go_wp2_with fail
    refine (rising_any b3 N (leftS (seeL ls)) w1 w3 HM3.out (by omega) left_one BB3.out).mono ?_
    rintro r w4 ⟨av, cv, rs, rfl, hri, hmem, hRI, hb4⟩
    have RK := hide hRI
    have BB4 := hide (below_next BB3.out hb4)
    have HPL := hide (show pthL ls = rs.map En.path from by
      rw [HCC.out]
      exact (all_paths (all_rise HRr.out h4 hri (fun e => (hmem e).trans (left_all HSL.out e)))).symm)
    have HKM := hide (show ∀ e ∈ rs, e.path.length ≤ 1048576 from fun e he => by
      obtain ⟨k, s1, e1⟩ := (left_all HSL.out e).1 ((hmem e).1 he)
      obtain ⟨es, hes, hee, -⟩ := seeL_mem e1
      exact ((HSL.out es hes).2 e hee).1)
    have hkl : rs.length ≤ 48 := by
      have h1 := all_len HRr.out ls.length (Nat.le_refl _)
      rw [List.take_length] at h1
      have h2 := congrArg List.length (HCC.out.symm.trans HPL.out)
      rw [List.length_map, List.length_map] at h2
      omega
    have hs4 := BB4.out.size
    clear hri hmem hRI hb4 HM3 BB3 HCC
    go_wp2_with fail
    go_loopw [4, 18] (fun v i wr => ∃ k : Nat, k ≤ rs.length ∧ i = .int .i64 k ∧ Hid (OwnS w4.heap.size wr v ((rs.take k).map En.path)) ∧ Hid (Below w4.heap.size w4 wr)) (fun _ i _ => rs.length - (intOf i).toNat)
    case atStart => exact ⟨0, Nat.zero_le _, rfl, hide (OwnS.nil _ _), hide (Below.refl _ _)⟩
    case round =>
      obtain ⟨k, hk, rfl, HO, HW⟩ := hrel
      have hsz := HW.out.size
      obtain ⟨lv, lc, hv⟩ := HO.out.shape
      have hln : ((rs.take k).map En.path).length = k := by rw [List.length_map, List.length_take]; omega
      rw [hln] at hv
      subst hv
      by_cases hlt : k < rs.length
      · obtain ⟨bb, off, e, x, cc, rfl, hbk, he, c0, c1, c2, c3, hr⟩ := (RK.out.below HW.out).at hlt
        have hpl := HKM.out e (List.mem_of_getElem? he)
        have HX := hide he
        clear he hr
        have BA := hide (below_alloc wr (.cells #[.int .i64 e.size, .slice x e.chunks.length cc, .string (str e.path), .int .i64 e.kind] 64))
        go_wp2_with fail
        refine (clone_str (str e.path) _ (by rw [str_size]; omega)).mono ?_
        rintro r w5 ⟨rfl, hb5⟩
        have HW5 := hide (below_next HW.out (below_next BA.out hb5))
        have O5 : Hid (w5.ownsRow w4.heap.size 9 1 (.slice lv k lc) k (((rs.take k).map En.path).map vS)) := by have := HO.out.below (below_next BA.out hb5); unfold OwnS at this; rw [hln] at this; exact this
        have hsz5 := HW5.out.size
        have HLn := hide hln
        have hm1 : k + 1 ≤ maxLen := by unfold maxLen; omega
        have hm2 : (k + 1) * 16 ≤ 140737488355328 := by omega
        clear hb5 hln HO HW BA c0 c1 c2 c3
        go_wp2_with (at_builtin; refine wpList_append_one rfl (.tmp 22) (.tmp 26) 26 rfl w4.heap.size 9 i1 (.string ⟨#[]⟩) 1 16 Tryz.underlying26 ki kz0 kz1 kz2 rfl (by decide) _ _ _ rfl O5.out rfl rfl (by intro u hu; simp at hu; subst hu; rfl) hm1 hm2 hsz5 ?_; intro v' w6 hown6 hkept; have O6 := hide (show OwnS w4.heap.size w6 v' (((rs.take k).map En.path) ++ [e.path]) from OwnS.snoc (by rw [HLn.out]; exact hown6) rfl); have K6 := hide hkept; clear hown6 hkept)
        go_roundw
        case rel =>
          refine ⟨k + 1, by omega, by go_num, hide ?_, hide ?_⟩
          · rw [take_snoc_at HX.out, List.map_append]; exact O6.out
          · exact Kept.below_own HW5.out hsz5 O5.out K6.out
        case measure => simp [intOf]; omega
      · have hke : k = rs.length := by omega
        have HO2 : Hid (OwnS w4.heap.size wr (.slice lv k lc) (pthL ls)) := by have := HO.out; rw [List.take_of_length_le (by omega)] at this; rw [HPL.out]; exact hide this
        have HLn := hide (show k = (pthL ls).length from by rw [HPL.out, List.length_map]; exact hke)
        have BB5 := hide (below_next BB4.out HW.out)
        obtain ⟨⟨t0, t1⟩, t2, t3⟩ := X1.out.below BB5.out
        have B5 := hide (below_next B1.out BB5.out)
        clear hke hln
        go_wp2_with fail
        exact bodyPost_ret (v := .agg #[.int .i64 0, .slice lv k lc]) (by simp [results, Tryz.results7, go_sem, t0, t1]) rfl (ResN.of (by omega) (Nat.le_refl _) HLn.out HO2.out B5.out)
  · have HCC := hide (show pthL ls = [] from by rw [pthL, if_neg hz])
    generalize layersP ls = F at *
    have hz2 : (F != 0) = true := by simp; exact hz
    clear hz
    go_enter Tryz.func7, Tryz.ntmps7
    go_wp2_with fail
    refine HLF.out.mono ?_
    rintro r w1 ⟨rfl, hb1⟩
    have B1 := hide (below_next B0.out hb1)
    obtain ⟨⟨t0, t1⟩, t2, t3⟩ := X0.out.below hb1
    clear hb1
    go_wp2_with fail
    exact bodyPost_ret (v := .agg #[.int .i64 F, .slice none 0 0]) (by simp [results, Tryz.results7, go_sem, t0, t1]) rfl (by rw [HCC.out]; exact ResN.bad (Nat.le_refl _) B1.out)
end Go.Proofs.YtjkmbicedbdifaaGreat
