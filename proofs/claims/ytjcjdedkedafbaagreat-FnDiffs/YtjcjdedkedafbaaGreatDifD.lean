/-
  The model's DiffTrees and its draw of two trees.
-/
import Derived.Test.YtjcjdedkedafbaaGreatDifN
import Derived.Test.YtjcjdedkedafbaaGreatTreF
import Derived.Test.YtjcjdedkedafbaaGreatDifR
namespace Go.Proofs.YtjcjdedkedafbaaGreat
open Go.RowKit Go.Maps
set_option linter.unusedVariables false
attribute [local go_sem ↓] Go.wp_at_zero Go.wp_at_succ

set_option maxRecDepth 100000 in
set_option maxHeartbeats 1600000 in
theorem specDiffTrees_any (a : Option Addr) (c n : Nat) (es : List En) (b : Option Addr) (d m : Nat) (fs : List En) (w : World) (h : RdE w a es) (hn : n = es.length) (hl : es.length ≤ 1048576) (hs : SmallE es) (hg : GoodH es) (hc : es.length ≤ c) (h2 : RdE w b fs) (hm : m = fs.length) (hl2 : fs.length ≤ 1048576) (hs2 : SmallE fs) (hg2 : GoodH fs) (hd : fs.length ≤ d) :
    Calls Tryz.prog 7 #[.slice a n c, .slice b m d] w fun r w' => ∃ av cv, r = .returned (.agg #[.int .i64 (difCode es fs), .slice av (difList es fs).length cv]) ∧ Below w.heap.size w w' := by
  subst hn hm
  have X0 := hide (Box.new w (.int .i64 0) (.slice none 0 0) 28)
  have B0 := hide (below_alloc w (.cells #[.int .i64 0, .slice none 0 0] 28))
  have HF1 := hide (fun (u : World) (hu : RdE u a es) => l6Fault_any a c es.length es u hu rfl hl hs)
  have HF2 := hide (fun (u : World) (hu : RdE u b fs) => l6Fault_any b d fs.length fs u hu rfl hl2 hs2)
  rw [← hg.tree] at HF1
  rw [← hg2.tree] at HF2
  have HR := hide h
  have HR2 := hide h2
  clear h h2 hs hs2 hg hg2
  go_enter Tryz.func7, Tryz.ntmps7
  go_wp2_with fail
  refine (HF1.out _ (HR.out.below B0.out)).mono ?_
  rintro r w1 ⟨rfl, hb1⟩
  have B1 := hide (below_next B0.out hb1)
  have X1 := hide (X0.out.below hb1)
  clear hb1 X0 B0
  by_cases hz : treFaultP es = 0
  · have HZ := hide hz
    rw [hz]
    clear hz
    go_wp2_with fail
    refine (HF2.out _ (HR2.out.below B1.out)).mono ?_
    rintro r w2 ⟨rfl, hb2⟩
    have B2 := hide (below_next B1.out hb2)
    have X2 := hide (X1.out.below hb2)
    clear hb2 X1
    by_cases hz2 : treFaultP fs = 0
    · have HZ2 := hide hz2
      have HRT := hide (rightT_P.1 HZ.out)
      have HRT2 := hide (rightT_P.1 hz2)
      rw [hz2]
      clear hz2
      go_wp2_with fail
      refine (l7Diff_any a c es.length es b d fs.length fs _ (HR.out.below B2.out) rfl HRT.out hc (HR2.out.below B2.out) rfl HRT2.out hd).mono ?_
      rintro r w3 ⟨g, cv, L, rfl, -, -, hb3⟩
      have B3 := hide (below_next B2.out hb3)
      obtain ⟨⟨t0, t1⟩, t2, t3⟩ := X2.out.below hb3
      clear hb3
      by_cases h12 : 12 < (diffE es fs).length
      · have HCC := hide (dif_many HZ.out HZ2.out h12)
        have hg12 : (12 : Int) < ((diffE es fs).length : Int) := by omega
        generalize (diffE es fs).length = N at *
        go_wp2_with fail
        exact bodyPost_ret (v := .agg #[.int .i64 2, .slice none 0 0]) (by simp [results, Tryz.results7, go_sem, t0, t1]) rfl ⟨none, 0, by rw [HCC.out.1, HCC.out.2]; rfl, (B3.out.setCell (Nat.le_refl _) _).setCell (Nat.le_refl _) _⟩
      · have HCC := hide (dif_ok HZ.out HZ2.out h12)
        have hg12 : ¬ (12 : Int) < ((diffE es fs).length : Int) := by omega
        have HLL := hide (show (difList es fs).length = (diffE es fs).length from by rw [HCC.out.2])
        generalize (diffE es fs).length = N at *
        go_wp2_with fail
        exact bodyPost_ret (v := .agg #[.int .i64 0, .slice (some ⟨g, 0, none⟩) N cv]) (by simp [results, Tryz.results7, go_sem, t0, t1]) rfl ⟨some ⟨g, 0, none⟩, cv, by rw [HCC.out.1, HLL.out], (B3.out.setCell (Nat.le_refl _) _).setCell (Nat.le_refl _) _⟩
    · have HCC := hide (dif_b HZ.out hz2)
      generalize treFaultP fs = F at *
      have hz3 : (F != 0) = true := by simp; exact hz2
      clear hz2
      obtain ⟨⟨t0, t1⟩, t2, t3⟩ := X2.out
      go_wp2_with fail
      exact bodyPost_ret (v := .agg #[.int .i64 F, .slice none 0 0]) (by simp [results, Tryz.results7, go_sem, t0, t1]) rfl ⟨none, 0, by rw [HCC.out.1, HCC.out.2]; rfl, (B2.out.setCell (Nat.le_refl _) _).setCell (Nat.le_refl _) _⟩
  · have HCC := hide (dif_a (b := fs) hz)
    generalize treFaultP es = F at *
    have hz3 : (F != 0) = true := by simp; exact hz
    clear hz
    obtain ⟨⟨t0, t1⟩, t2, t3⟩ := X1.out
    go_wp2_with fail
    exact bodyPost_ret (v := .agg #[.int .i64 F, .slice none 0 0]) (by simp [results, Tryz.results7, go_sem, t0, t1]) rfl ⟨none, 0, by rw [HCC.out.1, HCC.out.2]; rfl, (B1.out.setCell (Nat.le_refl _) _).setCell (Nat.le_refl _) _⟩

/-- Two drawn trees. -/
structure TwoT (w w' : World) (es : List En) (av : Option Addr) (cv : Nat) (fs : List En) (bv : Option Addr) (cw : Nat) : Prop where
  good : GoodH es
  good2 : GoodH fs
  len : es.length ≤ 41
  len2 : fs.length ≤ 41
  small : SmallE es
  small2 : SmallE fs
  rd : RdE w' av es
  rd2 : RdE w' bv fs
  cap : es.length ≤ cv
  cap2 : fs.length ≤ cw
  below : Below w.heap.size w w'
theorem GE.cap {B T : Nat} {w : World} {a : Option Addr} {c : Nat} {es : List En} (h : GE B T w (.slice a es.length c) es) : es.length ≤ c := by
  by_cases h0 : 0 < es.length
  · obtain ⟨g, -, hc⟩ := h.addr rfl (.inl h0)
    exact hc
  · omega
theorem GE.next {B : Nat} {w w' : World} {v : Value} {es : List En} (h : GE B w.heap.size w v es) (hb : Below w.heap.size w w') : GE B w'.heap.size w' v es := (h.below hb).wide hb.size
set_option maxRecDepth 100000 in
set_option maxHeartbeats 6400000 in
theorem drawDiffTrees_any (a : Option Addr) (cap : Nat) (zs : List Int) (w : World) (h : Reads .u8 w a zs) (hu : U8 zs) (hl : zs.length ≤ 1048576) :
    Calls Tryz.prog 5 #[.slice a zs.length cap] w fun r w' => ∃ (es : List En) (av : Option Addr) (cv : Nat) (fs : List En) (bv : Option Addr) (cw : Nat), r = .returned (.tuple #[.slice av es.length cv, .slice bv fs.length cw]) ∧ TwoT w w' es av cv fs bv cw := by
  have hfd : ∀ (w : World) (C : Int) (v : Value), (Instr.field 31 (.agg #[.int .i64 0, .int .i64 C, v]) 2).run Tryz.prog w = .ok v w := fun _ _ _ => by kernel_rfl
  have HR := hide h
  have HU := hide hu
  clear h hu
  go_enter Tryz.func5, Tryz.ntmps5
  go_wp2_with fail
  refine (l1Source_any a cap zs _ HR.out).mono ?_
  rintro r w1 ⟨rfl, s1, z1, b1⟩
  have S1 := hide (show SrcX w1 w.heap.size zs 0 from ⟨0, by decide, by decide, s1⟩)
  have B1 := hide b1
  clear s1 b1
  go_wp2_with fail
  refine (bentTree_e w.heap.size zs 0 _ S1.out HU.out (by decide) (by omega)).mono ?_
  rintro r w2 ⟨es, av, cv, rfl, hgd, hlen, hsm, hG, s2, k2⟩
  have HGd := hide hgd
  have HSm := hide hsm
  have hcap := hG.cap
  have G2 := hide (hG.mono (B' := w.heap.size + 1) (by omega))
  have S2 := hide s2
  have B2 := hide (B1.out.trans (k2.below (B := w.heap.size) B1.out.size (fun b hb e => by omega)))
  have hs2 := k2.size
  clear hgd hsm hG s2 k2 S1 B1
  go_wp2_with fail
  refine (bentTree_e w.heap.size zs _ _ S2.out HU.out (by omega) (by omega)).mono ?_
  rintro r w3 ⟨fs0, bv0, cw0, rfl, hgd3, hlen3, hsm3, hG3, s3, k3⟩
  have HGd3 := hide hgd3
  have HSm3 := hide hsm3
  have hcap3 := hG3.cap
  have F3 := hide (hG3.mono (B' := w.heap.size + 1) (by omega))
  have G3 := hide (G2.out.keptP k3 (by omega))
  have S3 := hide s3
  have B3 := hide (B2.out.trans (k3.below (B := w.heap.size) B2.out.size (fun b hb e => by omega)))
  have hs3 := k3.size
  clear hgd3 hsm3 hG3 s3 k3 S2 B2 G2
  have HFA := hide (l6Fault_any av cv es.length es w3 G3.out.rd rfl (by omega) HSm.out)
  rw [← HGd.out.tree] at HFA
  go_wp2_with fail
  by_cases hz : treFaultP es = 0
  · rw [hz] at HFA
    have HRT := hide (rightT_P.1 hz)
    clear hz
    refine HFA.out.mono ?_
    rintro r w4 ⟨rfl, hb4⟩
    have G4 := hide (G3.out.next hb4)
    have F4 := hide (F3.out.next hb4)
    have S4 := hide (S3.out.below hb4)
    have B4 := hide (below_next B3.out hb4)
    have hs4 := hb4.size
    clear hb4 G3 F3 S3 B3 HFA
    go_wp2_with fail
    refine (chance_e w.heap.size zs _ 2 _ S4.out HU.out (by omega) (by decide) (by decide) (by omega)).mono ?_
    rintro r w5 ⟨ch, rfl, s5, k5⟩
    have G5 := hide (G4.out.keptP k5 (by omega))
    have F5 := hide (F4.out.keptP k5 (by omega))
    have S5 := hide s5
    have B5 := hide (B4.out.trans (k5.below (B := w.heap.size) B4.out.size (fun b hb e => by omega)))
    have hs5 := k5.size
    clear s5 k5 G4 F4 S4 B4
    cases ch
    · go_wp2_with fail
      go_ret2
      exact ⟨es, av, cv, fs0, bv0, cw0, rfl, HGd.out, HGd3.out, hlen, hlen3, HSm.out, HSm3.out, G5.out.rd, F5.out.rd, hcap, hcap3, B5.out⟩
    · go_wp2_with fail
      refine (l4Copy_any av cv es.length es _ G5.out.rd rfl (by omega) HSm.out).mono ?_
      rintro r w6 ⟨g6, cv6, rfl, hcv6, hG6, hb6⟩
      have G6 := hide (G5.out.next hb6)
      have F6 := hide (hG6.mono (B' := w.heap.size + 1) (by omega))
      have S6 := hide (S5.out.below hb6)
      have B6 := hide (below_next B5.out hb6)
      have hs6 := hb6.size
      clear hG6 hb6 G5 F5 S5 B5
      go_wp2_with fail
      refine (next_e w.heap.size zs _ 5 _ S6.out HU.out (by omega) (by decide) (by decide) (by omega)).mono ?_
      rintro r w7 ⟨m0, rfl, hm0, s7, k7⟩
      have G7 := hide (G6.out.keptP k7 (by omega))
      have F7 := hide (F6.out.keptP k7 (by omega))
      have S7 := hide s7
      have B7 := hide (B6.out.trans (k7.below (B := w.heap.size) B6.out.size (fun b hb e => by omega)))
      have hs7 := k7.size
      clear s7 k7 G6 F6 S6 B6
      go_wp2_with fail
      go_loopw [6, 7] (fun v k wr => ∃ (fs : List En) (m : Nat), k = .int .i64 m ∧ m ≤ m0 ∧ Hid (RightT fs) ∧ Hid (GE (w.heap.size + 1) wr.heap.size wr v fs) ∧ Hid (GE (w.heap.size + 1) wr.heap.size wr (.slice av es.length cv) es) ∧ Hid (SrcX wr w.heap.size zs (4100 + 20 * (m0 - m : Nat))) ∧ Hid (Below w.heap.size w wr) ∧ w.heap.size + 1 ≤ wr.heap.size) (fun _ k _ => (intOf k).toNat)
      case atStart => exact ⟨es, m0, rfl, Nat.le_refl _, HRT, F7, G7, hide (S7.out.mono (by omega)), B7, by omega⟩
      case round =>
        obtain ⟨fs, m, rfl, hmm, HRF, HF, HG, HSr, HB, hsz⟩ := hrel
        obtain ⟨lv, lc, rfl⟩ := HF.out.shape
        by_cases hm : 0 < m
        · have hm' : (0 : Int) < (m : Int) := by omega
          go_wp2_with fail
          refine (path_e w.heap.size zs _ _ HSr.out HU.out (by omega) (by omega)).mono ?_
          rintro r w8 ⟨x, rfl, hxf, hxl, s8, k8⟩
          have S8 := hide s8
          have HXF := hide hxf
          have F8 := hide (HF.out.keptP k8 (by omega))
          have G8 := hide (HG.out.keptP k8 (by omega))
          have B8 := hide (HB.out.trans (k8.below (B := w.heap.size) HB.out.size (fun b hb e => by omega)))
          have hs8 := k8.size
          clear s8 k8 hxf HF HG HSr HB
          go_wp2_with fail
          refine (next_e w.heap.size zs _ 3 _ S8.out HU.out (by omega) (by decide) (by decide) (by omega)).mono ?_
          rintro r w9 ⟨i, rfl, hi, s9, k9⟩
          have S9 := hide s9
          have F9 := hide (F8.out.keptP k9 (by omega))
          have G9 := hide (G8.out.keptP k9 (by omega))
          have B9 := hide (B8.out.trans (k9.below (B := w.heap.size) B8.out.size (fun b hb e => by omega)))
          have hs9 := k9.size
          clear s9 k9 S8 F8 G8 B8
          have hi3 : i = 0 ∨ i = 1 ∨ i = 2 := by omega
          rcases hi3 with rfl | rfl | rfl
          · go_wp2_with fail
            refine (some_e w.heap.size 3 zs _ _ S9.out HU.out (by omega) (by omega) (by decide)).mono ?_
            rintro r w10 ⟨da, dc, ds, rfl, hd3, hdu, hdo, s10, k10⟩
            have hdc := ownsRow_cap hdo
            have RD := hide (ownInts_reads hdo hd3.symm)
            have DU := hide hdu
            have F10 := hide (F9.out.keptP k10 (by omega))
            have G10 := hide (G9.out.keptP k10 (by omega))
            have B10 := hide (B9.out.trans (k10.below (B := w.heap.size) B9.out.size (fun b hb e => by omega)))
            have S10 := hide s10
            have hs10 := k10.size
            have HWR := hide (l6Write_any lv lc fs.length fs x da dc ds w10 F10.out.rd rfl HRF.out HXF.out RD.out DU.out (by omega) (by omega))
            have HRW := hide (rightT_writeL (ds := ds) HRF.out HXF.out (fit_file HXF.out (by omega)))
            rw [hd3] at HWR
            clear hdo hdu s10 k10 F9 G9 B9 S9
            go_wp2_with fail
            refine HWR.out.mono ?_
            rintro r w11 ⟨av11, cv11, rfl, hG11, hb11⟩
            have F11 := hide (hG11.mono (B' := w.heap.size + 1) (by omega))
            have G11 := hide (G10.out.next hb11)
            have S11 := hide (S10.out.below hb11)
            have B11 := hide (below_next B10.out hb11)
            have hs11 := hb11.size
            generalize writeL fs x ds = L at *
            generalize writeC fs x = C at *
            clear hG11 hb11 HWR
            go_wp2_with fail
            go_roundw
            case rel => exact ⟨L, m - 1, by go_num, by omega, HRW, F11, G11, hide (S11.out.mono (by omega)), B11, by omega⟩
            case measure => simp [intOf]; omega
          · go_wp2_with fail
            refine (l6Remove_any lv lc fs.length fs x w9 F9.out.rd rfl HRF.out HXF.out).mono ?_
            rintro r w11 ⟨av11, cv11, rfl, hG11, hb11⟩
            have HRW := hide (rightT_removeL (p := x) HRF.out)
            have F11 := hide (hG11.mono (B' := w.heap.size + 1) (by omega))
            have G11 := hide (G9.out.next hb11)
            have S11 := hide (S9.out.below hb11)
            have B11 := hide (below_next B9.out hb11)
            have hs11 := hb11.size
            generalize removeL fs x = L at *
            generalize removeC fs x = C at *
            clear hG11 hb11
            go_wp2_with fail
            go_roundw
            case rel => exact ⟨L, m - 1, by go_num, by omega, HRW, F11, G11, hide (S11.out.mono (by omega)), B11, by omega⟩
            case measure => simp [intOf]; omega
          · go_wp2_with fail
            refine (l6Make_any lv lc fs.length fs x w9 F9.out.rd rfl HRF.out HXF.out).mono ?_
            rintro r w11 ⟨av11, cv11, rfl, hG11, hb11⟩
            have HRW := hide (rightT_makeL HRF.out HXF.out)
            have F11 := hide (hG11.mono (B' := w.heap.size + 1) (by omega))
            have G11 := hide (G9.out.next hb11)
            have S11 := hide (S9.out.below hb11)
            have B11 := hide (below_next B9.out hb11)
            have hs11 := hb11.size
            generalize makeL fs x = L at *
            generalize makeC fs x = C at *
            clear hG11 hb11
            go_wp2_with fail
            go_roundw
            case rel => exact ⟨L, m - 1, by go_num, by omega, HRW, F11, G11, hide (S11.out.mono (by omega)), B11, by omega⟩
            case measure => simp [intOf]; omega
        · have hm' : ¬ (0 : Int) < (m : Int) := by omega
          have hcf := HF.out.cap
          have hlf := HRF.out.len
          go_wp2_with fail
          go_ret2
          exact ⟨es, av, cv, fs, lv, lc, rfl, HGd.out, goodH_rise HRF.out.rise, hlen, by omega, HSm.out, HRF.out.small, HG.out.rd, HF.out.rd, hcap, hcf, HB.out⟩
  · generalize treFaultP es = F at *
    have hzb : (F == 0) = false := beq_eq_false_iff_ne.2 hz
    refine HFA.out.mono ?_
    rintro r w4 ⟨rfl, hb4⟩
    have G4 := hide (G3.out.next hb4)
    have F4 := hide (F3.out.next hb4)
    have B4 := hide (below_next B3.out hb4)
    clear hb4 G3 F3 S3 B3 HFA hz
    go_wp2_with fail
    go_ret2
    exact ⟨es, av, cv, fs0, bv0, cw0, rfl, HGd.out, HGd3.out, hlen, hlen3, HSm.out, HSm3.out, G4.out.rd, F4.out.rd, hcap, hcap3, B4.out⟩
end Go.Proofs.YtjcjdedkedafbaaGreat
