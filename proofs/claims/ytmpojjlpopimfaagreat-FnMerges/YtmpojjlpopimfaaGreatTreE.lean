/-
  The model's trees: what is written, made and removed; ListTree and WriteTree.
-/
import Derived.Test.YtmpojjlpopimfaaGreatTreN
namespace Go.Proofs.YtmpojjlpopimfaaGreat
open Go.RowKit Go.Maps
set_option linter.unusedVariables false
attribute [local go_sem ↓] Go.wp_at_zero Go.wp_at_succ

theorem fit_file {p : Bs} {ds : List Int} (hp : faultP p = 0) (hl : ds.length ≤ 24) : entFault (fileE p ds) = 0 := by
  have h1 : formE (fileE p ds) = true := decide_eq_true ⟨by simp [fileE], .inl rfl⟩
  have h2 : sizeE (fileE p ds) = true := decide_eq_true (by simp [fileE]; omega)
  have h3 : manyE (fileE p ds) = true := decide_eq_true (by show ((digs ds (cut ds).length).length : Int) = ((ds.length : Int) + 7) / 8; rw [digs_len, cut_length]; omega)
  rw [entFault_digs hp h1 h2 h3, if_pos]
  rw [List.all_eq_true]
  intro z hz
  simp only [fileE, digs, List.mem_map] at hz
  obtain ⟨i, _, rfl⟩ := hz
  exact decide_eq_true (digest_range _)
theorem path_len {p : Bs} (h : faultP p = 0) : p.length ≤ 15 := by
  obtain ⟨ns, hN, hpe, _, _⟩ := faultP_zero h
  have h1 := join_len ns hN.2.2.1
  have h2 := hN.2.2.2
  rw [hpe]
  omega
set_option maxRecDepth 100000 in
set_option maxHeartbeats 3200000 in
theorem l6Write_any (a : Option Addr) (c n : Nat) (es : List En) (p : Bs) (da : Option Addr) (dc : Nat) (ds : List Int) (w : World) (h : RdE w a es) (hn : n = es.length) (hR : RightT es) (hp : faultP p = 0) (hd : Reads .u8 w da ds) (hu : U8 ds) (hc : ds.length ≤ dc) (hl : ds.length ≤ 24) :
    Calls Tryz.prog 147 #[.slice a n c, .string (str p), .slice da ds.length dc] w (ResT 0 (writeC es p) (writeL es p ds) w) := by
  subst hn
  have X0 := hide (Box3.new w (.int .i64 0) (.int .i64 0) (.slice none 0 0) 32)
  have B0 := hide (below_alloc w (.cells #[.int .i64 0, .int .i64 0, .slice none 0 0] 32))
  have HR := hide h
  have HRT := hide hR
  have HS := hide hR.small
  have HP := hide hp
  have HD := hide hd
  have HU := hide hu
  have hlen := hR.len
  have hpl := path_len hp
  have hpos := path_pos hp
  have hle : es.length ≤ 1048576 := by omega
  clear h hR hd hu hp
  go_enter Tryz.func147, Tryz.ntmps147
  go_wp2_with fail
  refine (l6Home_any a c es.length es p _ (HR.out.below B0.out) rfl hle hpos (by omega)).mono ?_
  rintro r w1 ⟨rfl, hb1⟩
  have B1 := hide (below_next B0.out hb1)
  have X1 := hide (X0.out.below hb1)
  have hb0 : w.heap.size < w1.heap.size := X1.out.lt
  clear hb1 X0 B0
  by_cases h0 : homeC es p = 0
  · have HC := hide h0
    rw [h0]
    clear h0
    go_wp2_with fail
    refine (l4At_any _ _ _ es p _ (HR.out.below B1.out) rfl hle).mono ?_
    rintro r w1 ⟨rfl, rfl⟩
    have PUT : Hid (writeC es p = 0 → Calls Tryz.prog 172 #[.string (str p), .slice da ds.length dc] w1 fun r w' => ∃ av cv, r = .returned (.agg #[.string (str p), .int .i64 1, .int .i64 ds.length, .slice av (cut ds).length cv]) ∧ Reads .i64 w' av (fileE p ds).chunks ∧ Below w1.heap.size w1 w') := hide (fun _ => (l4File_any p da dc ds w1 (HD.out.below B1.out) HU.out hc hl).mono (fun r w' ⟨av, cv, hr, ho, hb⟩ => ⟨av, cv, hr, ownInts_reads (zs := digs ds (cut ds).length) ho (digs_len ds).symm, hb⟩))
    have hchl : (fileE p ds).chunks.length = (cut ds).length := digs_len ds
    have hcl : (cut ds).length ≤ 3 := by rw [cut_length]; omega
    cases ha : atE es p with
    | none =>
      have HF := hide (show findE es p = none from by rw [atE_find, ha]; rfl)
      simp only [placeI]
      by_cases h40 : 40 ≤ es.length
      · have HCC := hide (show writeC es p = 2 ∧ writeL es p ds = es from by
          have h2 : writeC es p = 2 := by simp [writeC, HC.out, HF.out, h40]
          exact ⟨h2, by rw [writeL, if_neg (by rw [h2]; decide)]⟩)
        have hg : (40 : Int) ≤ (es.length : Int) := by omega
        go_wp2_with fail
        refine (l6Reply_any a c es.length es 2 w1 (HR.out.below B1.out) rfl hle HS.out).mono ?_
        rintro r w3 ⟨av3, cv3, rfl, hG3, hb3⟩
        obtain ⟨⟨t0, t1, t2⟩, t3, t4, t5⟩ := X1.out.below hb3
        have G3 := hide hG3
        have B3 := hide (below_next B1.out hb3)
        clear hG3 hb3
        go_wp2_with fail
        exact bodyPost_ret (v := .agg #[.int .i64 0, .int .i64 2, .slice av3 es.length cv3]) (by simp [results, Tryz.results147, go_sem, t0, t1, t2]) rfl (by rw [HCC.out.1, HCC.out.2]; exact ResT.of hb0 (Nat.le_refl _) rfl G3.out B3.out)
      · have hw0 : writeC es p = 0 := by simp [writeC, HC.out, HF.out, h40]
        have HCC := hide (show writeC es p = 0 ∧ writeL es p ds = putE es (fileE p ds) from ⟨hw0, by rw [writeL, if_pos hw0]⟩)
        have PU := hide (PUT.out hw0)
        have hg : ¬ (40 : Int) ≤ (es.length : Int) := by omega
        clear hw0 PUT HF HC ha
        go_wp2_with fail
        refine PU.out.mono ?_
        rintro r w3 ⟨av3, cv3, rfl, hr3, hb3⟩
        have R3 := hide hr3
        have B3 := hide (below_next B1.out hb3)
        have X3 := hide (X1.out.below hb3)
        have hs3 := hb3.size
        clear hr3 hb3
        go_wp2_with fail
        refine (l4Put_any a c es.length es (fileE p ds) av3 (cut ds).length cv3 w3 (HR.out.below B3.out) rfl (by omega) HS.out hchl.symm R3.out (by show p.length ≤ 1048576; omega) (by rw [hchl]; omega)).mono ?_
        rintro r w4 ⟨g4, cv4, rfl, hG4, hb4⟩
        obtain ⟨⟨t0, t1, t2⟩, t3, t4, t5⟩ := X3.out.below hb4
        have G4 := hide hG4
        have B4 := hide (below_next B3.out hb4)
        clear hG4 hb4
        go_wp2_with fail
        exact bodyPost_ret (v := .agg #[.int .i64 0, .int .i64 0, .slice (some ⟨g4, 0, none⟩) (putE es (fileE p ds)).length cv4]) (by simp [results, Tryz.results147, go_sem, t0, t1, t2]) rfl (by rw [HCC.out.1, HCC.out.2]; exact ResT.of (by omega) (Nat.le_refl _) rfl G4.out B4.out)
    | some k =>
      have hk := atE_lt ha
      obtain ⟨e, he⟩ : ∃ e, es[k]? = some e := ⟨es[k], List.getElem?_eq_getElem hk⟩
      have HF := hide (find_at ha he)
      have HX := hide he
      clear ha he
      simp only [placeI]
      obtain ⟨b, off, e', x, cc, rfl, hbl, he', c0, c1, c2, c3, hr⟩ := (HR.out.below B1.out).at hk
      have : e' = e := Option.some.inj (he'.symm.trans HX.out)
      subst this
      clear he' hr c0 c2 c3
      by_cases hk2 : e'.kind = 2
      · have hkb : (e'.kind == 2) = true := by simp [hk2]
        have HCC := hide (show writeC es p = 9 ∧ writeL es p ds = es from by
          have h2 : writeC es p = 9 := by simp [writeC, HC.out, HF.out, hk2]
          exact ⟨h2, by rw [writeL, if_neg (by rw [h2]; decide)]⟩)
        clear hk2
        go_wp2_with fail
        refine (l6Reply_any _ c es.length es 9 w1 (HR.out.below B1.out) rfl hle HS.out).mono ?_
        rintro r w3 ⟨av3, cv3, rfl, hG3, hb3⟩
        obtain ⟨⟨t0, t1, t2⟩, t3, t4, t5⟩ := X1.out.below hb3
        have G3 := hide hG3
        have B3 := hide (below_next B1.out hb3)
        clear hG3 hb3
        go_wp2_with fail
        exact bodyPost_ret (v := .agg #[.int .i64 0, .int .i64 9, .slice av3 es.length cv3]) (by simp [results, Tryz.results147, go_sem, t0, t1, t2]) rfl (by rw [HCC.out.1, HCC.out.2]; exact ResT.of hb0 (Nat.le_refl _) rfl G3.out B3.out)
      · have hkb : (e'.kind == 2) = false := by simp [hk2]
        have hw0 : writeC es p = 0 := by simp [writeC, HC.out, HF.out, hk2]
        have HCC := hide (show writeC es p = 0 ∧ writeL es p ds = putE es (fileE p ds) from ⟨hw0, by rw [writeL, if_pos hw0]⟩)
        have PU := hide (PUT.out hw0)
        clear hw0 PUT HF HC hk2
        go_wp2_with fail
        refine PU.out.mono ?_
        rintro r w3 ⟨av3, cv3, rfl, hr3, hb3⟩
        have R3 := hide hr3
        have B3 := hide (below_next B1.out hb3)
        have X3 := hide (X1.out.below hb3)
        have hs3 := hb3.size
        clear hr3 hb3 c1
        go_wp2_with fail
        refine (l4Put_any _ c es.length es (fileE p ds) av3 (cut ds).length cv3 w3 (HR.out.below B3.out) rfl (by omega) HS.out hchl.symm R3.out (by show p.length ≤ 1048576; omega) (by rw [hchl]; omega)).mono ?_
        rintro r w4 ⟨g4, cv4, rfl, hG4, hb4⟩
        obtain ⟨⟨t0, t1, t2⟩, t3, t4, t5⟩ := X3.out.below hb4
        have G4 := hide hG4
        have B4 := hide (below_next B3.out hb4)
        clear hG4 hb4
        go_wp2_with fail
        exact bodyPost_ret (v := .agg #[.int .i64 0, .int .i64 0, .slice (some ⟨g4, 0, none⟩) (putE es (fileE p ds)).length cv4]) (by simp [results, Tryz.results147, go_sem, t0, t1, t2]) rfl (by rw [HCC.out.1, HCC.out.2]; exact ResT.of (by omega) (Nat.le_refl _) rfl G4.out B4.out)
  · have HCC := hide (show writeC es p = homeC es p ∧ writeL es p ds = es from by
      have h2 : writeC es p = homeC es p := by rw [writeC, if_neg h0]
      exact ⟨h2, by rw [writeL, if_neg (by rw [h2]; exact h0)]⟩)
    generalize homeC es p = F at *
    have hz2 : (F != 0) = true := by simp; exact h0
    clear h0
    go_wp2_with fail
    refine (l6Reply_any a c es.length es F w1 (HR.out.below B1.out) rfl hle HS.out).mono ?_
    rintro r w3 ⟨av3, cv3, rfl, hG3, hb3⟩
    obtain ⟨⟨t0, t1, t2⟩, t3, t4, t5⟩ := X1.out.below hb3
    have G3 := hide hG3
    have B3 := hide (below_next B1.out hb3)
    clear hG3 hb3
    go_wp2_with fail
    exact bodyPost_ret (v := .agg #[.int .i64 0, .int .i64 F, .slice av3 es.length cv3]) (by simp [results, Tryz.results147, go_sem, t0, t1, t2]) rfl (by rw [HCC.out.1, HCC.out.2]; exact ResT.of hb0 (Nat.le_refl _) rfl G3.out B3.out)

set_option maxRecDepth 100000 in
set_option maxHeartbeats 3200000 in
theorem l6Make_any (a : Option Addr) (c n : Nat) (es : List En) (p : Bs) (w : World) (h : RdE w a es) (hn : n = es.length) (hR : RightT es) (hp : faultP p = 0) :
    Calls Tryz.prog 145 #[.slice a n c, .string (str p)] w (ResT 0 (makeC es p) (makeL es p) w) := by
  subst hn
  have X0 := hide (Box3.new w (.int .i64 0) (.int .i64 0) (.slice none 0 0) 32)
  have B0 := hide (below_alloc w (.cells #[.int .i64 0, .int .i64 0, .slice none 0 0] 32))
  have HR := hide h
  have HS := hide hR.small
  have hlen := hR.len
  have hpl := path_len hp
  have hpos := path_pos hp
  have hle : es.length ≤ 1048576 := by omega
  clear h hR hp
  go_enter Tryz.func145, Tryz.ntmps145
  go_wp2_with fail
  refine (l6Home_any a c es.length es p _ (HR.out.below B0.out) rfl hle hpos (by omega)).mono ?_
  rintro r w1 ⟨rfl, hb1⟩
  have B1 := hide (below_next B0.out hb1)
  have X1 := hide (X0.out.below hb1)
  have hb0 : w.heap.size < w1.heap.size := X1.out.lt
  clear hb1 X0 B0
  by_cases h0 : homeC es p = 0
  · have HC := hide h0
    rw [h0]
    clear h0
    go_wp2_with fail
    refine (l4At_any _ _ _ es p _ (HR.out.below B1.out) rfl hle).mono ?_
    rintro r w1 ⟨rfl, rfl⟩
    cases ha : atE es p with
    | none =>
      have HF := hide (show findE es p = none from by rw [atE_find, ha]; rfl)
      simp only [placeI]
      by_cases h40 : 40 ≤ es.length
      · have HCC := hide (show makeC es p = 2 ∧ makeL es p = es from by
          have h2 : makeC es p = 2 := by simp [makeC, HC.out, HF.out, h40]
          exact ⟨h2, by rw [makeL, if_neg (by rw [h2]; decide)]⟩)
        have hg : (40 : Int) ≤ (es.length : Int) := by omega
        go_wp2_with fail
        refine (l6Reply_any a c es.length es 2 w1 (HR.out.below B1.out) rfl hle HS.out).mono ?_
        rintro r w3 ⟨av3, cv3, rfl, hG3, hb3⟩
        obtain ⟨⟨t0, t1, t2⟩, t3, t4, t5⟩ := X1.out.below hb3
        have G3 := hide hG3
        have B3 := hide (below_next B1.out hb3)
        clear hG3 hb3
        go_wp2_with fail
        exact bodyPost_ret (v := .agg #[.int .i64 0, .int .i64 2, .slice av3 es.length cv3]) (by simp [results, Tryz.results145, go_sem, t0, t1, t2]) rfl (by rw [HCC.out.1, HCC.out.2]; exact ResT.of hb0 (Nat.le_refl _) rfl G3.out B3.out)
      · have HCC := hide (show makeC es p = 0 ∧ makeL es p = putE es (dirE p) from by
          have hw0 : makeC es p = 0 := by simp [makeC, HC.out, HF.out, h40]
          exact ⟨hw0, by rw [makeL, if_pos hw0]⟩)
        have hg : ¬ (40 : Int) ≤ (es.length : Int) := by omega
        clear HF HC ha
        go_wp2_with fail
        refine (l4Put_any a c es.length es (dirE p) none 0 0 w1 (HR.out.below B1.out) rfl (by omega) HS.out rfl (fun h => absurd rfl h) (by show p.length ≤ 1048576; omega) (by simp [dirE])).mono ?_
        rintro r w4 ⟨g4, cv4, rfl, hG4, hb4⟩
        obtain ⟨⟨t0, t1, t2⟩, t3, t4, t5⟩ := X1.out.below hb4
        have G4 := hide hG4
        have B4 := hide (below_next B1.out hb4)
        clear hG4 hb4
        go_wp2_with fail
        exact bodyPost_ret (v := .agg #[.int .i64 0, .int .i64 0, .slice (some ⟨g4, 0, none⟩) (putE es (dirE p)).length cv4]) (by simp [results, Tryz.results145, go_sem, t0, t1, t2]) rfl (by rw [HCC.out.1, HCC.out.2]; exact ResT.of hb0 (Nat.le_refl _) rfl G4.out B4.out)
    | some k =>
      have hk := atE_lt ha
      obtain ⟨e, he⟩ : ∃ e, es[k]? = some e := ⟨es[k], List.getElem?_eq_getElem hk⟩
      have HF := hide (find_at ha he)
      clear ha he
      simp only [placeI]
      have HCC := hide (show makeC es p = 7 ∧ makeL es p = es from by
        have h2 : makeC es p = 7 := by simp [makeC, HC.out, HF.out]
        exact ⟨h2, by rw [makeL, if_neg (by rw [h2]; decide)]⟩)
      go_wp2_with fail
      refine (l6Reply_any _ c es.length es 7 w1 (HR.out.below B1.out) rfl hle HS.out).mono ?_
      rintro r w3 ⟨av3, cv3, rfl, hG3, hb3⟩
      obtain ⟨⟨t0, t1, t2⟩, t3, t4, t5⟩ := X1.out.below hb3
      have G3 := hide hG3
      have B3 := hide (below_next B1.out hb3)
      clear hG3 hb3
      go_wp2_with fail
      exact bodyPost_ret (v := .agg #[.int .i64 0, .int .i64 7, .slice av3 es.length cv3]) (by simp [results, Tryz.results145, go_sem, t0, t1, t2]) rfl (by rw [HCC.out.1, HCC.out.2]; exact ResT.of hb0 (Nat.le_refl _) rfl G3.out B3.out)
  · have HCC := hide (show makeC es p = homeC es p ∧ makeL es p = es from by
      have h2 : makeC es p = homeC es p := by rw [makeC, if_neg h0]
      exact ⟨h2, by rw [makeL, if_neg (by rw [h2]; exact h0)]⟩)
    generalize homeC es p = F at *
    have hz2 : (F != 0) = true := by simp; exact h0
    clear h0
    go_wp2_with fail
    refine (l6Reply_any a c es.length es F w1 (HR.out.below B1.out) rfl hle HS.out).mono ?_
    rintro r w3 ⟨av3, cv3, rfl, hG3, hb3⟩
    obtain ⟨⟨t0, t1, t2⟩, t3, t4, t5⟩ := X1.out.below hb3
    have G3 := hide hG3
    have B3 := hide (below_next B1.out hb3)
    clear hG3 hb3
    go_wp2_with fail
    exact bodyPost_ret (v := .agg #[.int .i64 0, .int .i64 F, .slice av3 es.length cv3]) (by simp [results, Tryz.results145, go_sem, t0, t1, t2]) rfl (by rw [HCC.out.1, HCC.out.2]; exact ResT.of hb0 (Nat.le_refl _) rfl G3.out B3.out)

theorem names_none {es : List En} {q : Bs} : (namesE es q).length = 0 ↔ kidsE es q = [] := by
  unfold namesE
  rw [List.length_map, List.length_eq_zero_iff]
set_option maxRecDepth 100000 in
set_option maxHeartbeats 3200000 in
theorem l6Remove_any (a : Option Addr) (c n : Nat) (es : List En) (p : Bs) (w : World) (h : RdE w a es) (hn : n = es.length) (hR : RightT es) (hp : faultP p = 0) :
    Calls Tryz.prog 146 #[.slice a n c, .string (str p)] w (ResT 0 (removeC es p) (removeL es p) w) := by
  subst hn
  have X0 := hide (Box3.new w (.int .i64 0) (.int .i64 0) (.slice none 0 0) 32)
  have B0 := hide (below_alloc w (.cells #[.int .i64 0, .int .i64 0, .slice none 0 0] 32))
  have HR := hide h
  have HRT := hide hR
  have HS := hide hR.small
  have HP := hide hp
  have hlen := hR.len
  have hpl := path_len hp
  have hle : es.length ≤ 1048576 := by omega
  have hb0 : w.heap.size < (w.alloc (.cells #[.int .i64 0, .int .i64 0, .slice none 0 0] 32)).heap.size := by simp
  clear h hR hp
  go_enter Tryz.func146, Tryz.ntmps146
  go_wp2_with fail
  generalize w.alloc (.cells #[.int .i64 0, .int .i64 0, .slice none 0 0] 32) = W0 at *
  refine (l4At_any _ _ _ es p _ (HR.out.below B0.out) rfl hle).mono ?_
  rintro r W0 ⟨rfl, rfl⟩
  cases ha : atE es p with
  | none =>
    have HF := hide (show findE es p = none from by rw [atE_find, ha]; rfl)
    simp only [placeI]
    have HCC := hide (show removeC es p = 4 ∧ removeL es p = es from by
      have h2 : removeC es p = 4 := by simp [removeC, HF.out]
      exact ⟨h2, by rw [removeL, if_neg (by rw [h2]; decide)]⟩)
    go_wp2_with fail
    refine (l6Reply_any a c es.length es 4 W0 (HR.out.below B0.out) rfl hle HS.out).mono ?_
    rintro r w3 ⟨av3, cv3, rfl, hG3, hb3⟩
    obtain ⟨⟨t0, t1, t2⟩, t3, t4, t5⟩ := X0.out.below hb3
    have G3 := hide hG3
    have B3 := hide (below_next B0.out hb3)
    clear hG3 hb3
    go_wp2_with fail
    exact bodyPost_ret (v := .agg #[.int .i64 0, .int .i64 4, .slice av3 es.length cv3]) (by simp [results, Tryz.results146, go_sem, t0, t1, t2]) rfl (by rw [HCC.out.1, HCC.out.2]; exact ResT.of hb0 (Nat.le_refl _) rfl G3.out B3.out)
  | some k =>
    have hk := atE_lt ha
    obtain ⟨e, he⟩ : ∃ e, es[k]? = some e := ⟨es[k], List.getElem?_eq_getElem hk⟩
    have HF := hide (find_at ha he)
    clear ha he
    simp only [placeI]
    go_wp2_with fail
    refine (l6Names_any a c es.length es p _ (HR.out.below B0.out) rfl HRT.out).mono ?_
    rintro r w2 ⟨av2, cv2, rfl, -, hb2⟩
    have B2 := hide (below_next B0.out hb2)
    have X2 := hide (X0.out.below hb2)
    have hs2 := hb2.size
    clear hb2
    by_cases hq : kidsE es p = []
    · have hn0 : (namesE es p).length = 0 := names_none.2 hq
      have HCC := hide (show removeC es p = 0 ∧ removeL es p = restE es p true from by
        have h2 : removeC es p = 0 := by simp [removeC, HF.out, hq]
        refine ⟨h2, ?_⟩
        rw [removeL, if_pos h2, rest_off (HRT.out.none_below HP.out (kids_none.1 hq))])
      rw [hn0]
      clear hq hn0
      go_wp2_with fail
      refine (l4Without_any a c es.length es p true w2 (HR.out.below B2.out) rfl hle HS.out (by omega)).mono ?_
      rintro r w3 ⟨g3, cv3, rfl, hG3, hb3⟩
      obtain ⟨⟨t0, t1, t2⟩, t3, t4, t5⟩ := X2.out.below hb3
      have G3 := hide hG3
      have B3 := hide (below_next B2.out hb3)
      clear hG3 hb3
      go_wp2_with fail
      exact bodyPost_ret (v := .agg #[.int .i64 0, .int .i64 0, .slice (some ⟨g3, 0, none⟩) (restE es p true).length cv3]) (by simp [results, Tryz.results146, go_sem, t0, t1, t2]) rfl (by rw [HCC.out.1, HCC.out.2]; exact ResT.of (by omega) (Nat.le_refl _) rfl G3.out B3.out)
    · have hn0 : (0 : Int) < ((namesE es p).length : Int) := by
        have : (namesE es p).length ≠ 0 := fun e => hq (names_none.1 e)
        omega
      have HCC := hide (show removeC es p = 1 ∧ removeL es p = es from by
        have h2 : removeC es p = 1 := by simp [removeC, HF.out, hq]
        exact ⟨h2, by rw [removeL, if_neg (by rw [h2]; decide)]⟩)
      clear hq
      go_wp2_with fail
      refine (l6Reply_any a c es.length es 1 w2 (HR.out.below B2.out) rfl hle HS.out).mono ?_
      rintro r w3 ⟨av3, cv3, rfl, hG3, hb3⟩
      obtain ⟨⟨t0, t1, t2⟩, t3, t4, t5⟩ := X2.out.below hb3
      have G3 := hide hG3
      have B3 := hide (below_next B2.out hb3)
      clear hG3 hb3
      go_wp2_with fail
      exact bodyPost_ret (v := .agg #[.int .i64 0, .int .i64 1, .slice av3 es.length cv3]) (by simp [results, Tryz.results146, go_sem, t0, t1, t2]) rfl (by rw [HCC.out.1, HCC.out.2]; exact ResT.of (by omega) (Nat.le_refl _) rfl G3.out B3.out)
end Go.Proofs.YtmpojjlpopimfaaGreat
