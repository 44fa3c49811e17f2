/-
  The program's WriteTree and MakeDir.
-/
import Derived.Test.YtbdbhdgfifojoabGreatDoorTreI
import Derived.Test.YtbdbhdgfifojoabGreatDoorTreE
namespace Go.Proofs.YtbdbhdgfifojoabGreatDoor
open Go.RowKit Go.Maps
set_option linter.unusedVariables false
attribute [local go_sem ↓] Go.wp_at_zero Go.wp_at_succ

def wrCode (es : List En) (p : Bs) (ds : List Int) : Int := if askT es p = 0 then (if 24 < ds.length then 2 else 0) else askT es p
def wrRep (es : List En) (p : Bs) (ds : List Int) : Int := if wrCode es p ds = 0 then writeC es p else 0
def wrList (es : List En) (p : Bs) (ds : List Int) : List En := if wrCode es p ds = 0 then writeL es p ds else []
theorem wr_ask {es : List En} {p : Bs} {ds : List Int} (h : askT es p ≠ 0) : wrCode es p ds = askT es p ∧ wrRep es p ds = 0 ∧ wrList es p ds = [] := by
  have h1 : wrCode es p ds = askT es p := by rw [wrCode, if_neg h]
  exact ⟨h1, by rw [wrRep, if_neg (by rw [h1]; exact h)], by rw [wrList, if_neg (by rw [h1]; exact h)]⟩
theorem wr_many {es : List En} {p : Bs} {ds : List Int} (h : askT es p = 0) (hl : 24 < ds.length) : wrCode es p ds = 2 ∧ wrRep es p ds = 0 ∧ wrList es p ds = [] := by
  have h1 : wrCode es p ds = 2 := by rw [wrCode, if_pos h, if_pos hl]
  exact ⟨h1, by rw [wrRep, if_neg (by rw [h1]; decide)], by rw [wrList, if_neg (by rw [h1]; decide)]⟩
theorem wr_ok {es : List En} {p : Bs} {ds : List Int} (h : askT es p = 0) (hl : ¬ 24 < ds.length) : wrCode es p ds = 0 ∧ wrRep es p ds = writeC es p ∧ wrList es p ds = writeL es p ds := by
  have h1 : wrCode es p ds = 0 := by rw [wrCode, if_pos h, if_neg hl]
  exact ⟨h1, by rw [wrRep, if_pos h1], by rw [wrList, if_pos h1]⟩
theorem put_write {es : List En} {p : Bs} {ds : List Int} (hR : RightT es) (hp : faultP p = 0) (h : writeC es p = 0) : putAt (offE es p) (fileE p ds) = writeL es p ds := by
  rw [writeL, if_pos h, putE, base_off (.inr (write_bare hR hp h))]
  rfl
theorem put_make {es : List En} {p : Bs} (h : makeC es p = 0) : putAt (offE es p) (dirE p) = makeL es p := by
  rw [makeL, if_pos h, putE, base_off (.inl rfl)]
  rfl
theorem small_writeL {es : List En} {p : Bs} {ds : List Int} (hR : RightT es) (hp : faultP p = 0) (hl : ds.length ≤ 24) : SmallE (writeL es p ds) := (rightT_writeL hR hp (fit_file hp hl)).small
theorem small_makeL {es : List En} {p : Bs} (hR : RightT es) (hp : faultP p = 0) : SmallE (makeL es p) := (rightT_makeL hR hp).small

set_option maxRecDepth 100000 in
set_option maxHeartbeats 3200000 in
theorem implWriteTree_any (a : Option Addr) (c n : Nat) (es : List En) (p : Bs) (da : Option Addr) (dc : Nat) (ds : List Int) (w : World) (h : RdE w a es) (hn : n = es.length) (hl : es.length ≤ 1048576) (hs : SmallE es) (hp : p.length ≤ 1048576) (hd : Reads .u8 w da ds) (hu : U8 ds) (hc : ds.length ≤ dc) (hdl : ds.length ≤ 1048576) :
    Calls Tryz.prog 17 #[.slice a n c, .string (str p), .slice da ds.length dc] w (ResT (wrCode es p ds) (wrRep es p ds) (wrList es p ds) w) := by
  subst hn
  have X0 := hide (Box3.new w (.int .i64 0) (.int .i64 0) (.slice none 0 0) 45)
  have B0 := hide (below_alloc w (.cells #[.int .i64 0, .int .i64 0, .slice none 0 0] 45))
  have HR := hide h
  have HS := hide hs
  have HD := hide hd
  have HU := hide hu
  clear h hs hd hu
  go_enter Tryz.func17, Tryz.ntmps17
  go_wp2_with fail
  refine (implAskT_any a c es.length es p _ (HR.out.below B0.out) rfl hl HS.out hp).mono ?_
  rintro r w1 ⟨rfl, hb1⟩
  have B1 := hide (below_next B0.out hb1)
  have X1 := hide (X0.out.below hb1)
  have hb0 : w.heap.size < w1.heap.size := X1.out.lt
  clear hb1 X0 B0
  by_cases hz : askT es p = 0
  · obtain ⟨hRT, hpf⟩ := ask_tree hz
    have HRT := hide hRT
    have HZ := hide hz
    rw [hz]
    clear hz hRT
    go_wp2_with fail
    refine (implFileEntry_any p da dc ds.length ds w1 (HD.out.below B1.out) rfl HU.out hc hp hdl).mono ?_
    rintro r w2 ⟨av2, cv2, rfl, hG2, hb2⟩
    by_cases h24 : 24 < ds.length
    · have hfc : fileCode p ds = 2 := by rw [fileCode, if_pos hpf, if_pos h24]
      have HCC := hide (wr_many (es := es) (p := p) HZ.out h24)
      rw [hfc]
      generalize fileList p ds = FL at *
      have BB2 := hide (below_next hb2 (below_alloc w2 (.cells #[.int .i64 2, .slice av2 FL.length cv2] 27)))
      obtain ⟨⟨t0, t1, t2⟩, t3, t4, t5⟩ := X1.out.below BB2.out
      have B2 := hide (below_next B1.out BB2.out)
      clear hG2 hb2 hfc
      go_wp2_with fail
      exact bodyPost_ret (v := .agg #[.int .i64 2, .int .i64 0, .slice none 0 0]) (by simp [results, Tryz.results17, go_sem, t0, t1, t2]) rfl (by rw [HCC.out.1, HCC.out.2.1, HCC.out.2.2]; exact ResT.bad (Nat.le_refl _) B2.out)
    · have hfc : fileCode p ds = 0 := by rw [fileCode, if_pos hpf, if_neg h24]
      have hfl : fileList p ds = [fileE p ds] := by rw [fileList, if_pos hfc]
      have hfn : (fileList p ds).length = 1 := by rw [hfl]; rfl
      rw [hfn, hfl] at hG2
      rw [hfc, hfn]
      have HCC := hide (wr_ok (es := es) (p := p) HZ.out h24)
      have hchl : (fileE p ds).chunks.length = (cut ds).length := digs_len ds
      have hcl : (cut ds).length ≤ 3 := by rw [cut_length]; omega
      obtain ⟨g, rfl, -⟩ := hG2.addr rfl (.inl (by decide))
      have A2 := hide (below_alloc w2 (.cells #[.int .i64 0, .slice (some ⟨g, 0, none⟩) 1 cv2] 27))
      have BB2 := hide (below_next hb2 A2.out)
      have Y2 := hide (Box.new w2 (.int .i64 0) (.slice (some ⟨g, 0, none⟩) 1 cv2) 27)
      have G2 := hide (hG2.below A2.out)
      clear hG2 hb2 hfc hfl hfn A2
      go_wp2_with fail
      generalize w2.alloc (.cells #[.int .i64 0, .slice (some ⟨g, 0, none⟩) 1 cv2] 27) = W2 at *
      generalize w2.heap.size = b2 at *
      refine (treeOf_any a c es.length es _ (HR.out.below (below_next B1.out BB2.out)) rfl hl).mono ?_
      rintro r w3 ⟨av, cv, rfl, hL, hb3⟩
      have RI := hide (hL.rd hb3)
      have B3 := hide hb3
      clear hL hb3
      go_wp2_with fail
      refine (writeReply_any av cv es.length es p _ RI.out rfl HRT.out hpf).mono ?_
      rintro r w4 ⟨rfl, hb4⟩
      have RI4 := hide (RI.out.below hb4)
      have B4 := hide (below_next B3.out hb4)
      have BB4 := hide (below_next BB2.out B4.out)
      clear hb4 RI B3
      by_cases hr : writeC es p = 0
      · have HPW := hide (put_write (ds := ds) HRT.out hpf hr)
        have HSM := hide (small_writeL (ds := ds) HRT.out hpf (by omega))
        have hwl := (rightT_writeL (ds := ds) HRT.out hpf (fit_file hpf (by omega))).len
        have HWC := hide hr
        rw [hr]
        clear hr
        obtain ⟨⟨y0, y1⟩, y2, y3⟩ := Y2.out.below B4.out
        obtain ⟨b, off, e', x, cc, hbb, hb, he, c0, c1, c2, c3, hrd⟩ := (G2.out.below B4.out).rd.at (k := 0) (by simp)
        simp only [Option.some.injEq, Addr.mk.injEq, and_true] at hbb
        obtain ⟨rfl, rfl⟩ := hbb
        simp only [List.getElem?_cons_zero, Option.some.injEq] at he
        subst he
        have c0' : w4.cell? ⟨g, 0, none⟩ = some (.string (str p)) := by simpa [fileE] using c0
        have c1' : w4.cell? ⟨g, 1, none⟩ = some (.int .i64 1) := by simpa [fileE] using c1
        have c2' : w4.cell? ⟨g, 2, none⟩ = some (.int .i64 ds.length) := by simpa [fileE] using c2
        have c3' : w4.cell? ⟨g, 3, none⟩ = some (.slice x (cut ds).length cc) := by rw [hchl] at c3; simpa using c3
        have HRD := hide hrd
        clear c0 c1 c2 c3 hrd
        go_wp2_with fail
        refine (itemOf_any (str p) 1 ds.length x (cut ds).length cc _).mono ?_
        rintro r w5 ⟨rfl, hb5⟩
        have RI5 := hide (RI4.out.below hb5)
        have R5 := hide (HRD.out.below hb5)
        have BB5 := hide (below_next BB4.out hb5)
        clear hb5 c0' c1' c2' c3' y0 y1 y2 y3
        have HWI : Hid (Calls Tryz.prog 54 #[.slice av es.length cv, .agg #[.int .i64 ds.length, .slice x (cut ds).length cc, .string (str p), .int .i64 1]] w5 fun r w' => ∃ g cv, r = .returned (.slice (some ⟨g, 0, none⟩) (writeL es p ds).length cv) ∧ RdI w' (some ⟨g, 0, none⟩) (writeL es p ds) ∧ Below w5.heap.size w5 w') := hide (by
          have h1 := withItem_any av cv es.length es (fileE p ds) x cc w5 RI5.out rfl (by have := HRT.out.len; omega) HRT.out.small HRT.out.rise R5.out
          have e1 : putAt (offE es (fileE p ds).path) (fileE p ds) = writeL es p ds := HPW.out
          rw [e1, hchl] at h1
          exact h1)
        go_wp2_with fail
        refine HWI.out.mono ?_
        rintro r w6 ⟨g6, cv6, rfl, hri6, hb6⟩
        have RI6 := hide hri6
        have BB6 := hide (below_next BB5.out hb6)
        clear hri6 hb6
        go_wp2_with fail
        refine (entriesOf_any _ _ _ (writeL es p ds) _ RI6.out rfl (by omega) HSM.out).mono ?_
        rintro r w7 ⟨av7, cv7, rfl, hG7, hb7⟩
        have hs6 := BB6.out.size
        have BB7 := hide (below_next BB6.out hb7)
        obtain ⟨⟨t0, t1, t2⟩, t3, t4, t5⟩ := X1.out.below BB7.out
        have G7 := hide hG7
        have B7 := hide (below_next B1.out BB7.out)
        clear hG7 hb7
        go_wp2_with fail
        exact bodyPost_ret (v := .agg #[.int .i64 0, .int .i64 0, .slice av7 (writeL es p ds).length cv7]) (by simp [results, Tryz.results17, go_sem, t0, t1, t2]) rfl (by rw [HCC.out.1, HCC.out.2.1, HCC.out.2.2, HWC.out]; exact ResT.of (by omega) (Nat.le_refl _) rfl G7.out B7.out)
      · have HCD := hide (show writeL es p ds = es from by rw [writeL, if_neg hr])
        generalize writeC es p = G at *
        have hr2 : (G != 0) = true := by simp; exact hr
        clear hr
        go_wp2_with fail
        refine (entriesOf_any _ _ _ es _ RI4.out rfl hl HS.out).mono ?_
        rintro r w6 ⟨av6, cv6, rfl, hG6, hb6⟩
        have hs4 := BB4.out.size
        have BB6 := hide (below_next BB4.out hb6)
        obtain ⟨⟨t0, t1, t2⟩, t3, t4, t5⟩ := X1.out.below BB6.out
        have G6 := hide hG6
        have B6 := hide (below_next B1.out BB6.out)
        clear hG6 hb6
        go_wp2_with fail
        exact bodyPost_ret (v := .agg #[.int .i64 0, .int .i64 G, .slice av6 es.length cv6]) (by simp [results, Tryz.results17, go_sem, t0, t1, t2]) rfl (by rw [HCC.out.1, HCC.out.2.1, HCC.out.2.2, HCD.out]; exact ResT.of (by omega) (Nat.le_refl _) rfl G6.out B6.out)
  · have HCC := hide (wr_ask (ds := ds) hz)
    generalize askT es p = F at *
    have hz2 : (F != 0) = true := by simp; exact hz
    clear hz
    obtain ⟨⟨t0, t1, t2⟩, t3, t4, t5⟩ := X1.out
    go_wp2_with fail
    exact bodyPost_ret (v := .agg #[.int .i64 F, .int .i64 0, .slice none 0 0]) (by simp [results, Tryz.results17, go_sem, t0, t1, t2]) rfl (by rw [HCC.out.1, HCC.out.2.1, HCC.out.2.2]; exact ResT.bad (Nat.le_refl _) B1.out)

def mkRep (es : List En) (p : Bs) : Int := if askT es p = 0 then makeC es p else 0
def mkList (es : List En) (p : Bs) : List En := if askT es p = 0 then makeL es p else []
set_option maxRecDepth 100000 in
set_option maxHeartbeats 3200000 in
theorem implMakeDir_any (a : Option Addr) (c n : Nat) (es : List En) (p : Bs) (w : World) (h : RdE w a es) (hn : n = es.length) (hl : es.length ≤ 1048576) (hs : SmallE es) (hp : p.length ≤ 1048576) :
    Calls Tryz.prog 22 #[.slice a n c, .string (str p)] w (ResT (askT es p) (mkRep es p) (mkList es p) w) := by
  subst hn
  have X0 := hide (Box3.new w (.int .i64 0) (.int .i64 0) (.slice none 0 0) 45)
  have B0 := hide (below_alloc w (.cells #[.int .i64 0, .int .i64 0, .slice none 0 0] 45))
  have HR := hide h
  have HS := hide hs
  clear h hs
  go_enter Tryz.func22, Tryz.ntmps22
  go_wp2_with fail
  refine (implAskT_any a c es.length es p _ (HR.out.below B0.out) rfl hl HS.out hp).mono ?_
  rintro r w1 ⟨rfl, hb1⟩
  have B1 := hide (below_next B0.out hb1)
  have X1 := hide (X0.out.below hb1)
  have hb0 : w.heap.size < w1.heap.size := X1.out.lt
  clear hb1 X0 B0
  by_cases hz : askT es p = 0
  · obtain ⟨hRT, hpf⟩ := ask_tree hz
    have HRT := hide hRT
    have HCC := hide (show askT es p = 0 ∧ mkRep es p = makeC es p ∧ mkList es p = makeL es p from ⟨hz, by rw [mkRep, if_pos hz], by rw [mkList, if_pos hz]⟩)
    rw [hz]
    clear hz hRT
    go_wp2_with fail
    refine (treeOf_any a c es.length es _ (HR.out.below B1.out) rfl hl).mono ?_
    rintro r w3 ⟨av, cv, rfl, hL, hb3⟩
    have RI := hide (hL.rd hb3)
    have B3 := hide hb3
    clear hL hb3
    go_wp2_with fail
    refine (makeReply_any av cv es.length es p _ RI.out rfl HRT.out hpf).mono ?_
    rintro r w4 ⟨rfl, hb4⟩
    have RI4 := hide (RI.out.below hb4)
    have BB4 := hide (below_next B3.out hb4)
    clear hb4 RI B3
    by_cases hr : makeC es p = 0
    · have HPW := hide (put_make hr)
      have HSM := hide (small_makeL HRT.out hpf)
      have hwl := (rightT_makeL HRT.out hpf).len
      have HWC := hide hr
      rw [hr]
      clear hr
      have HWI : Hid (Calls Tryz.prog 54 #[.slice av es.length cv, .agg #[.int .i64 0, .slice none 0 0, .string (str p), .int .i64 2]] w4 fun r w' => ∃ g cv, r = .returned (.slice (some ⟨g, 0, none⟩) (makeL es p).length cv) ∧ RdI w' (some ⟨g, 0, none⟩) (makeL es p) ∧ Below w4.heap.size w4 w') := hide (by
        have h1 := withItem_any av cv es.length es (dirE p) none 0 w4 RI4.out rfl (by have := HRT.out.len; omega) HRT.out.small HRT.out.rise (fun h => absurd rfl h)
        have e1 : putAt (offE es (dirE p).path) (dirE p) = makeL es p := HPW.out
        rw [e1] at h1
        exact h1)
      go_wp2_with fail
      refine HWI.out.mono ?_
      rintro r w6 ⟨g6, cv6, rfl, hri6, hb6⟩
      have RI6 := hide hri6
      have BB6 := hide (below_next BB4.out hb6)
      clear hri6 hb6
      go_wp2_with fail
      refine (entriesOf_any _ _ _ (makeL es p) _ RI6.out rfl (by omega) HSM.out).mono ?_
      rintro r w7 ⟨av7, cv7, rfl, hG7, hb7⟩
      have hs6 := BB6.out.size
      have BB7 := hide (below_next BB6.out hb7)
      obtain ⟨⟨t0, t1, t2⟩, t3, t4, t5⟩ := X1.out.below BB7.out
      have G7 := hide hG7
      have B7 := hide (below_next B1.out BB7.out)
      clear hG7 hb7
      go_wp2_with fail
      exact bodyPost_ret (v := .agg #[.int .i64 0, .int .i64 0, .slice av7 (makeL es p).length cv7]) (by simp [results, Tryz.results22, go_sem, t0, t1, t2]) rfl (by rw [HCC.out.1, HCC.out.2.1, HCC.out.2.2, HWC.out]; exact ResT.of (by omega) (Nat.le_refl _) rfl G7.out B7.out)
    · have HCD := hide (show makeL es p = es from by rw [makeL, if_neg hr])
      generalize makeC es p = G at *
      have hr2 : (G != 0) = true := by simp; exact hr
      clear hr
      go_wp2_with fail
      refine (entriesOf_any _ _ _ es _ RI4.out rfl hl HS.out).mono ?_
      rintro r w6 ⟨av6, cv6, rfl, hG6, hb6⟩
      have hs4 := BB4.out.size
      have BB6 := hide (below_next BB4.out hb6)
      obtain ⟨⟨t0, t1, t2⟩, t3, t4, t5⟩ := X1.out.below BB6.out
      have G6 := hide hG6
      have B6 := hide (below_next B1.out BB6.out)
      clear hG6 hb6
      go_wp2_with fail
      exact bodyPost_ret (v := .agg #[.int .i64 0, .int .i64 G, .slice av6 es.length cv6]) (by simp [results, Tryz.results22, go_sem, t0, t1, t2]) rfl (by rw [HCC.out.1, HCC.out.2.1, HCC.out.2.2, HCD.out]; exact ResT.of (by omega) (Nat.le_refl _) rfl G6.out B6.out)
  · have HCC := hide (show mkRep es p = 0 ∧ mkList es p = [] from ⟨by rw [mkRep, if_neg hz], by rw [mkList, if_neg hz]⟩)
    generalize askT es p = F at *
    have hz2 : (F != 0) = true := by simp; exact hz
    clear hz
    obtain ⟨⟨t0, t1, t2⟩, t3, t4, t5⟩ := X1.out
    go_wp2_with fail
    exact bodyPost_ret (v := .agg #[.int .i64 F, .int .i64 0, .slice none 0 0]) (by simp [results, Tryz.results22, go_sem, t0, t1, t2]) rfl (by rw [HCC.out.1, HCC.out.2]; exact ResT.bad (Nat.le_refl _) B1.out)
end Go.Proofs.YtbdbhdgfifojoabGreatDoor
