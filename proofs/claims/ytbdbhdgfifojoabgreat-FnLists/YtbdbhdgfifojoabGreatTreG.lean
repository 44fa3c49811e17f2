/-
  The model's ListTree answers as the program's does.
-/
import Derived.Test.YtbdbhdgfifojoabGreatTreD
import Derived.Test.YtbdbhdgfifojoabGreatTreE
namespace Go.Proofs.YtbdbhdgfifojoabGreat
open Go.RowKit Go.Maps
set_option linter.unusedVariables false
attribute [local go_sem ↓] Go.wp_at_zero Go.wp_at_succ

theorem listC_fault {es : List En} {p : Bs} (h : treFaultP es ≠ 0) : listC es p = treFaultP es := by
  unfold listC
  by_cases h0 : p = [47]
  · rw [if_pos h0]
  · have h1 : askT es p = treFaultP es := by rw [askT, if_neg h]
    have h2 : statC es p = treFaultP es := by rw [statC, h1, if_neg h]
    rw [if_neg h0, h2, if_neg h]
theorem listC_top {es : List En} (h : treFaultP es = 0) : listC es [47] = 0 := by rw [listC, if_pos rfl, h]
theorem statC_path {es : List En} {p : Bs} (h : treFaultP es = 0) (hp : faultP p ≠ 0) : statC es p = faultP p := by
  have h1 : askT es p = faultP p := by rw [askT, if_pos h]
  rw [statC, h1, if_neg hp]
theorem listC_path {es : List En} {p : Bs} (h : treFaultP es = 0) (h0 : p ≠ [47]) (hp : faultP p ≠ 0) : listC es p = faultP p := by
  rw [listC, if_neg h0, statC_path h hp, if_neg hp]
theorem statC_ok {es : List En} {p : Bs} (h : treFaultP es = 0) (hp : faultP p = 0) : statC es p = if (findE es p).isSome then 0 else 4 := by
  have h1 : askT es p = 0 := by rw [askT, if_pos h, hp]
  rw [statC, if_pos h1]
theorem listC_none {es : List En} {p : Bs} (h : treFaultP es = 0) (hp : faultP p = 0) (hf : findE es p = none) : listC es p = 4 := by
  have h1 := statC_ok h hp
  rw [hf] at h1
  have h2 : statC es p = 4 := h1
  rw [listC, if_neg (fun e : p = [47] => fault_top (e ▸ hp)), h2]
  rfl
theorem listC_some {es : List En} {p : Bs} {e : En} (h : treFaultP es = 0) (hp : faultP p = 0) (hf : findE es p = some e) : listC es p = if e.kind = 2 then 0 else 9 := by
  have h1 := statC_ok h hp
  rw [hf] at h1
  have h2 : statC es p = 0 := h1
  simp only [listC, h2, hf, if_true]
  rw [if_neg (fun e : p = [47] => fault_top (e ▸ hp))]
theorem listL_bad {es : List En} {p : Bs} (h : listC es p ≠ 0) : listL es p = [] := by rw [listL, if_neg h]

set_option maxRecDepth 100000 in
set_option maxHeartbeats 1600000 in
theorem specListTree_any (a : Option Addr) (c n : Nat) (es : List En) (p : Bs) (w : World) (h : RdE w a es) (hn : n = es.length) (hl : es.length ≤ 1048576) (hs : SmallE es) (hp : p.length ≤ 1048576) (hg : GoodH es) :
    Calls Tryz.prog 7 #[.slice a n c, .string (str p)] w (ResN (listC es p) (listL es p) w) := by
  subst hn
  have X0 := hide (Box.new w (.int .i64 0) (.slice none 0 0) 29)
  have B0 := hide (below_alloc w (.cells #[.int .i64 0, .slice none 0 0] 29))
  have HR := hide h
  have HS := hide hs
  have HGT := hide hg.tree
  have hs1 : ((str p).toList == [47]) = decide (p = [47]) := by rw [str_toList]; by_cases h47 : p = [47] <;> simp [h47]
  clear h hs hg
  go_enter Tryz.func7, Tryz.ntmps7
  go_wp2_with fail
  refine (l6Fault_any a c es.length es _ (HR.out.below B0.out) rfl hl HS.out).mono ?_
  rintro r w1 ⟨rfl, hb1⟩
  rw [← HGT.out]
  have B1 := hide (below_next B0.out hb1)
  have X1 := hide (X0.out.below hb1)
  have hb0 : w.heap.size < w1.heap.size := X1.out.1.lt
  clear hb1 X0 B0 HGT
  by_cases hz : treFaultP es = 0
  · have HZ := hide hz
    have HRT := hide (rightT_P.1 hz)
    rw [hz]
    clear hz
    by_cases h0 : p = [47]
    · rw [decide_eq_true h0] at hs1
      have HCC := hide (show listC es p = 0 ∧ listL es p = namesE es [] from by
        subst h0
        have h2 := listC_top HZ.out
        exact ⟨h2, by rw [listL, if_pos h2]; rfl⟩)
      clear h0
      go_wp2_with fail
      refine (l6Names_any a c es.length es [] _ (HR.out.below B1.out) rfl HRT.out).mono ?_
      rintro r w2 ⟨av2, cv2, rfl, hO, hb2⟩
      obtain ⟨⟨t0, t1⟩, t2, t3⟩ := X1.out.below hb2
      have O2 := hide hO
      have B2 := hide (below_next B1.out hb2)
      clear hO hb2
      go_wp2_with fail
      exact bodyPost_ret (v := .agg #[.int .i64 0, .slice av2 (namesE es []).length cv2]) (by simp [results, Tryz.results7, go_sem, t0, t1]) rfl (by rw [HCC.out.1, HCC.out.2]; exact ResN.of hb0 (Nat.le_refl _) rfl O2.out B2.out)
    · rw [decide_eq_false h0] at hs1
      have HN := hide h0
      go_wp2_with fail
      refine (l3Fault_any (str p) _ (by rw [str_size]; omega)).mono ?_
      rintro r w2 ⟨rfl, hb2⟩
      rw [str_data]
      have B2 := hide (below_next B1.out hb2)
      have X2 := hide (X1.out.below hb2)
      have hb2s := hb2.size
      clear hb2 h0
      by_cases hpf : faultP p = 0
      · have HP := hide hpf
        rw [hpf]
        clear hpf
        go_wp2_with fail
        refine (l4At_any _ _ _ es p _ (HR.out.below B2.out) rfl hl).mono ?_
        rintro r w2 ⟨rfl, rfl⟩
        cases ha : atE es p with
        | none =>
          have HCC := hide (show listC es p = 4 ∧ listL es p = [] from by
            have h2 := listC_none HZ.out HP.out (show findE es p = none by rw [atE_find, ha]; rfl)
            exact ⟨h2, listL_bad (by rw [h2]; decide)⟩)
          simp only [placeI]
          obtain ⟨⟨t0, t1⟩, t2, t3⟩ := X2.out
          go_wp2_with fail
          exact bodyPost_ret (v := .agg #[.int .i64 4, .slice none 0 0]) (by simp [results, Tryz.results7, go_sem, t0, t1]) rfl (by rw [HCC.out.1, HCC.out.2]; exact ResN.bad (Nat.le_refl _) B2.out)
        | some k =>
          have hk := atE_lt ha
          obtain ⟨e, he⟩ : ∃ e, es[k]? = some e := ⟨es[k], List.getElem?_eq_getElem hk⟩
          have hfe := find_at ha he
          have HLC := hide (listC_some HZ.out HP.out hfe)
          have hkk := HRT.out.kinds (find_mem hfe).1
          have HX := hide he
          clear ha he hfe
          simp only [placeI]
          obtain ⟨b, off, e', x, cc, rfl, hbl, he', c0, c1, c2, c3, hr⟩ := (HR.out.below B2.out).at hk
          have : e' = e := Option.some.inj (he'.symm.trans HX.out)
          subst this
          clear he' hr c0 c2 c3
          by_cases hk1 : e'.kind = 1
          · have hkb : (e'.kind == 1) = true := by simp [hk1]
            have HCC := hide (show listC es p = 9 ∧ listL es p = [] from by
              have h2 : listC es p = 9 := by rw [HLC.out, if_neg (by rw [hk1]; decide)]
              exact ⟨h2, listL_bad (by rw [h2]; decide)⟩)
            clear hk1 hkk
            obtain ⟨⟨t0, t1⟩, t2, t3⟩ := X2.out
            go_wp2_with fail
            exact bodyPost_ret (v := .agg #[.int .i64 9, .slice none 0 0]) (by simp [results, Tryz.results7, go_sem, t0, t1]) rfl (by rw [HCC.out.1, HCC.out.2]; exact ResN.bad (Nat.le_refl _) B2.out)
          · have hkb : (e'.kind == 1) = false := by simp [hk1]
            have HCC := hide (show listC es p = 0 ∧ listL es p = namesE es p from by
              have h2 : listC es p = 0 := by rw [HLC.out, if_pos (hkk.resolve_left hk1)]
              exact ⟨h2, by rw [listL, if_pos h2, topQ, if_neg HN.out]⟩)
            clear hk1 hkk
            go_wp2_with fail
            refine (l6Names_any _ c es.length es p _ (HR.out.below B2.out) rfl HRT.out).mono ?_
            rintro r w3 ⟨av3, cv3, rfl, hO, hb3⟩
            obtain ⟨⟨t0, t1⟩, t2, t3⟩ := X2.out.below hb3
            have O3 := hide hO
            have B3 := hide (below_next B2.out hb3)
            clear hO hb3
            go_wp2_with fail
            exact bodyPost_ret (v := .agg #[.int .i64 0, .slice av3 (namesE es p).length cv3]) (by simp [results, Tryz.results7, go_sem, t0, t1]) rfl (by rw [HCC.out.1, HCC.out.2]; exact ResN.of (by omega) (Nat.le_refl _) rfl O3.out B3.out)
      · have HCC := hide (show listC es p = faultP p ∧ listL es p = [] from by
          have h2 := listC_path HZ.out HN.out hpf
          exact ⟨h2, listL_bad (by rw [h2]; exact hpf)⟩)
        generalize faultP p = F at *
        have hz2 : (F != 0) = true := by simp; exact hpf
        clear hpf
        obtain ⟨⟨t0, t1⟩, t2, t3⟩ := X2.out
        go_wp2_with fail
        exact bodyPost_ret (v := .agg #[.int .i64 F, .slice none 0 0]) (by simp [results, Tryz.results7, go_sem, t0, t1]) rfl (by rw [HCC.out.1, HCC.out.2]; exact ResN.bad (Nat.le_refl _) B2.out)
  · have HCC := hide (show listC es p = treFaultP es ∧ listL es p = [] from by
      have h2 := listC_fault (p := p) hz
      exact ⟨h2, listL_bad (by rw [h2]; exact hz)⟩)
    generalize treFaultP es = F at *
    have hz2 : (F != 0) = true := by simp; exact hz
    clear hz
    obtain ⟨⟨t0, t1⟩, t2, t3⟩ := X1.out
    go_wp2_with fail
    exact bodyPost_ret (v := .agg #[.int .i64 F, .slice none 0 0]) (by simp [results, Tryz.results7, go_sem, t0, t1]) rfl (by rw [HCC.out.1, HCC.out.2]; exact ResN.bad (Nat.le_refl _) B1.out)

set_option maxRecDepth 100000 in
set_option maxHeartbeats 800000 in
theorem lwNames_e (a b : Option Addr) (c1 c2 : Nat) (ms : List Bs) (w : World) (h : ReadsS w a ms) (h2 : ReadsS w b ms) (hl : ms.length ≤ 1048576) :
    Calls Tryz.prog 11 #[.slice a ms.length c1, .slice b ms.length c2] w fun e w' => e = .returned (.bool true) ∧ Below w.heap.size w w' := by
  have HA := hide h
  have HB := hide h2
  clear h h2
  go_enter Tryz.func11, Tryz.ntmps11
  go_wp2
  go_loopw [5] (fun i wr => ∃ k : Nat, k ≤ ms.length ∧ i = .int .i64 k ∧ Below w.heap.size w wr) (fun i _ => ms.length - (intOf i).toNat)
  case atStart => exact ⟨0, Nat.zero_le _, rfl, Below.refl _ _⟩
  case round =>
    obtain ⟨k, hk, rfl, hbel⟩ := hrel
    have HW := hide hbel
    clear hbel
    by_cases hlt : k < ms.length
    · obtain ⟨b1, o1, p1, rfl, hb1, hp1, e1⟩ := (HA.out.below HW.out).at hlt
      obtain ⟨b2, o2, p2, rfl, hb2, hp2, e2⟩ := (HB.out.below HW.out).at hlt
      have hpp : p2 = p1 := Option.some.inj (hp2.symm.trans hp1)
      subst hpp
      have hk0 : (0 : Int) ≤ (k : Int) := by omega
      have hk1 : (k : Int) < (ms.length : Int) := by omega
      clear hp1 hp2
      go_wp2
      go_quiet (fail)
      go_wp2
      go_roundw
      case rel => exact ⟨k + 1, by omega, by go_num, below_drewN HW.out _⟩
      case measure => simp [intOf]; omega
    · have hke : k = ms.length := by omega
      subst hke
      go_wp2
      go_ret
      exact ⟨rfl, HW.out⟩
end Go.Proofs.YtbdbhdgfifojoabGreat
