/-
  The model's draws of a tree that may be bent, and of a path with it.
-/
import Derived.Test.YtmpojjlpopimfaaGreatDrawI
import Derived.Test.YtmpojjlpopimfaaGreatTreE
namespace Go.Proofs.YtmpojjlpopimfaaGreat
open Go.RowKit Go.Maps
set_option linter.unusedVariables false
attribute [local go_sem ↓] Go.wp_at_zero Go.wp_at_succ

theorem makeL_len (es : List En) (p : Bs) : (makeL es p).length ≤ es.length + 1 := by
  unfold makeL; split
  · exact put_len_le _ _
  · omega
theorem writeL_len (es : List En) (p : Bs) (ds : List Int) : (writeL es p ds).length ≤ es.length + 1 := by
  unfold writeL; split
  · exact put_len_le _ _
  · omega
theorem removeL_len (es : List En) (p : Bs) : (removeL es p).length ≤ es.length + 1 := by
  unfold removeL; split
  · have := offE_len es p; omega
  · omega
set_option maxRecDepth 100000 in
set_option maxHeartbeats 6400000 in
theorem right6_e (p : Nat) (zs : List Int) (T : Int) (w : World) (h : SrcX w p zs T) (hu : U8 zs) (hT : T ≤ 100000) (hl : zs.length ≤ 2097152) :
    Calls Tryz.prog 107 #[.pointer (some ⟨p, 0, none⟩)] w fun r w' => ∃ (es : List En) (av : Option Addr) (cv : Nat), r = .returned (.slice av es.length cv) ∧ RightT es ∧ es.length ≤ 11 ∧ GE w.heap.size w'.heap.size w' (.slice av es.length cv) es ∧ SrcX w' p zs (T + 400) ∧ Kept (fun b => b = p) w w' := by
  have hp := h.lt
  have S0 := hide (h.below (below_alloc w (.cells #[] 36)))
  have G0 := hide (GE.made w)
  have K0 := hide ((Kept.refl (fun b => b = p) w).alloc (.cells #[] 36))
  have HU := hide hu
  clear h hu
  have hfd : ∀ (q rep : Int) (a : Option Addr) (n c : Nat) (w : World), (Instr.field 32 (.agg #[.int .i64 q, .int .i64 rep, .slice a n c]) 2).run Tryz.prog w = .ok (.slice a n c) w := fun _ _ _ _ _ _ => by kernel_rfl
  go_enter Tryz.func107, Tryz.ntmps107
  go_wp2_with fail
  generalize w.alloc (.cells #[] 36) = W0 at *
  refine (next_e p zs T 12 _ S0.out HU.out (by omega) (by decide) (by decide) hl).mono ?_
  rintro r w1 ⟨m0, rfl, hm0, s1, k1⟩
  have S1 := hide s1
  have K1 := hide (K0.out.trans k1)
  have G1 := hide (G0.out.keptP k1 hp)
  clear s1 k1 S0 K0 G0
  go_wp2_with fail
  go_loopw [3, 4] (fun v k wr => ∃ (es : List En) (m : Nat), k = .int .i64 m ∧ m ≤ m0 ∧ es.length + m ≤ m0 ∧ Hid (RightT es) ∧ Hid (GE w.heap.size wr.heap.size wr v es) ∧ Hid (SrcX wr p zs (T + 1 + 20 * (m0 - m : Nat))) ∧ Hid (Kept (fun b => b = p) w wr)) (fun _ k _ => (intOf k).toNat)
  case atStart => exact ⟨[], m0, rfl, Nat.le_refl _, by simp, hide rightT_nil, G1, hide (S1.out.mono (by omega)), K1⟩
  case round =>
    obtain ⟨es, m, rfl, hmm, hlm, HRT, HG, HSr, HK⟩ := hrel
    obtain ⟨lv, lc, rfl⟩ := HG.out.shape
    have hsz := HK.out.size
    by_cases hm : 0 < m
    · have hm' : (0 : Int) < (m : Int) := by omega
      go_wp2_with fail
      refine (path_e p zs _ _ HSr.out HU.out (by omega) hl).mono ?_
      rintro r w2 ⟨x, rfl, hxf, hxl, s2, k2⟩
      have S2 := hide s2
      have HXF := hide hxf
      have G2 := hide (HG.out.keptP k2 hp)
      have K2 := hide (HK.out.trans k2)
      clear s2 k2 hxf HG HSr HK
      go_wp2_with fail
      refine (next_e p zs _ 5 _ S2.out HU.out (by omega) (by decide) (by decide) hl).mono ?_
      rintro r w3 ⟨i, rfl, hi, s3, k3⟩
      have S3 := hide s3
      have G3 := hide (G2.out.keptP k3 hp)
      have K3 := hide (K2.out.trans k3)
      clear s3 k3 S2 G2 K2
      have hsz3 := K3.out.size
      by_cases h01 : i = 0 ∨ i = 1
      · have e01 : (((i : Int) == 0) = true) ∨ (((i : Int) == 0) = false ∧ ((i : Int) == 1) = true) := by rcases h01 with rfl | rfl <;> simp
        clear h01
        rcases e01 with e0 | ⟨e0, e1⟩
        all_goals
          go_wp2_with fail
          refine (l6Make_any lv lc es.length es x w3 G3.out.rd rfl HRT.out HXF.out).mono ?_
          rintro r w4 ⟨av4, cv4, rfl, hG4, hb4⟩
          have hll := makeL_len es x
          have HRT4 := hide (rightT_makeL HRT.out HXF.out)
          have G4 := hide (hG4.mono hsz3)
          have S4 := hide (S3.out.below hb4)
          have K4 := hide (K3.out.trans (Kept.of_below hb4))
          generalize makeL es x = L at *
          generalize makeC es x = C at *
          clear hG4 hb4
          go_wp2_with fail
          go_roundw
          case rel => exact ⟨L, m - 1, by go_num, by omega, by omega, HRT4, G4, hide (S4.out.mono (by omega)), K4⟩
          case measure => simp [intOf]; omega
      · by_cases h2 : i = 2
        · subst h2
          go_wp2_with fail
          refine (l6Remove_any lv lc es.length es x w3 G3.out.rd rfl HRT.out HXF.out).mono ?_
          rintro r w4 ⟨av4, cv4, rfl, hG4, hb4⟩
          have hll := removeL_len es x
          have HRT4 := hide (rightT_removeL (p := x) HRT.out)
          have G4 := hide (hG4.mono hsz3)
          have S4 := hide (S3.out.below hb4)
          have K4 := hide (K3.out.trans (Kept.of_below hb4))
          generalize removeL es x = L at *
          generalize removeC es x = C at *
          clear hG4 hb4
          go_wp2_with fail
          go_roundw
          case rel => exact ⟨L, m - 1, by go_num, by omega, by omega, HRT4, G4, hide (S4.out.mono (by omega)), K4⟩
          case measure => simp [intOf]; omega
        · have e0 : ((i : Int) == 0) = false := by simp; omega
          have e1 : ((i : Int) == 1) = false := by simp; omega
          have e2 : ((i : Int) == 2) = false := by simp; omega
          clear h01 h2
          go_wp2_with fail
          refine (next_e p zs _ 12 _ S3.out HU.out (by omega) (by decide) (by decide) hl).mono ?_
          rintro r w4 ⟨j, rfl, hj, s4, k4⟩
          have S4 := hide s4
          have G4 := hide (G3.out.keptP k4 hp)
          have K4 := hide (K3.out.trans k4)
          clear s4 k4 S3 G3 K3
          go_wp2_with fail
          refine (some_e p j zs _ _ S4.out HU.out (by omega) hl (by omega)).mono ?_
          rintro r w5 ⟨da, dc, ds, rfl, hdl, hdu, ho5, s5, k5⟩
          subst hdl
          have RD := hide (ownInts_reads ho5 rfl)
          have hcap := ownsRow_cap ho5
          have DU := hide hdu
          have S5 := hide s5
          have G5 := hide (G4.out.keptP k5 hp)
          have K5 := hide (K4.out.trans k5)
          have hsz5 := K5.out.size
          clear s5 k5 S4 G4 K4 ho5 hdu
          go_wp2_with fail
          refine (l6Write_any lv lc es.length es x da dc ds w5 G5.out.rd rfl HRT.out HXF.out RD.out DU.out hcap (by omega)).mono ?_
          rintro r w6 ⟨av6, cv6, rfl, hG6, hb6⟩
          have hll := writeL_len es x ds
          have HRT6 := hide (rightT_writeL (ds := ds) HRT.out HXF.out (fit_file HXF.out (by omega)))
          have G6 := hide (hG6.mono hsz5)
          have S6 := hide (S5.out.below hb6)
          have K6 := hide (K5.out.trans (Kept.of_below hb6))
          generalize writeL es x ds = L at *
          generalize writeC es x = C at *
          clear hG6 hb6
          go_wp2_with fail
          go_roundw
          case rel => exact ⟨L, m - 1, by go_num, by omega, by omega, HRT6, G6, hide (S6.out.mono (by omega)), K6⟩
          case measure => simp [intOf]; omega
    · have hm' : ¬ (0 : Int) < (m : Int) := by omega
      go_wp2_with fail
      go_ret
      exact ⟨es, lv, lc, rfl, HRT.out, by omega, HG.out, HSr.out.mono (by omega), HK.out⟩

/-- A drawn tree. -/
def LayT (w : World) (p : Nat) (zs : List Int) (T : Int) (es : List En) (v : Value) (w' : World) : Prop :=
  GoodH es ∧ es.length ≤ 41 ∧ SmallE es ∧ GE w.heap.size w'.heap.size w' v es ∧ SrcX w' p zs T ∧ Kept (fun b => b = p) w w'

set_option maxRecDepth 100000 in
set_option maxHeartbeats 6400000 in
theorem bentTree_e (p : Nat) (zs : List Int) (T : Int) (w : World) (h : SrcX w p zs T) (hu : U8 zs) (hT : T ≤ 90000) (hl : zs.length ≤ 2097152) :
    Calls Tryz.prog 48 #[.pointer (some ⟨p, 0, none⟩)] w fun r w' => ∃ (es : List En) (av : Option Addr) (cv : Nat), r = .returned (.slice av es.length cv) ∧ LayT w p zs (T + 2000) es (.slice av es.length cv) w' := by
  obtain ⟨i1, ki, kz0, kz1, kz2⟩ := info_parts Tryz.infoEn
  have hp := h.lt
  have HS := hide h
  have HU := hide hu
  clear h hu
  go_enter Tryz.func48, Tryz.ntmps48
  go_wp2_with fail
  refine (right6_e p zs T _ HS.out HU.out (by omega) hl).mono ?_
  rintro r w1 ⟨es, lv, lc, rfl, hR, hl12, hG1, s1, k1⟩
  have HRi := hide hR
  have G1 := hide hG1
  have S1 := hide s1
  have K1 := hide k1
  clear hR hG1 s1 k1 HS
  go_wp2_with fail
  refine (next_e p zs _ 16 _ S1.out HU.out (by omega) (by decide) (by decide) hl).mono ?_
  rintro r w2 ⟨i, rfl, hi, s2, k2⟩
  have S2 := hide s2
  have K2 := hide (K1.out.trans k2)
  have G2 := hide (G1.out.keptP k2 hp)
  have hsz2 := K2.out.size
  clear s2 k2 G1 S1 K1
  by_cases h0 : i = 0
  · subst h0
    go_wp2_with fail
    refine (bentEntry_e p zs _ _ S2.out HU.out (by omega) hl).mono ?_
    rintro r w3 ⟨e, a, c, rfl, ⟨hel, hec⟩, ho3, s3, k3⟩
    have G3 := hide (G2.out.kept k3 (fun b h1 _ e => by omega))
    have S3 := hide s3
    have K3 := hide (K2.out.trans k3)
    have O3 := hide ho3
    have hs3 := k3.size
    clear ho3 s3 k3
    obtain ⟨rs, g1, g2, g3, g4, g5, g6⟩ := G3.out
    have Q1 := hide g1
    have Q2 := hide g2
    have Q3 := hide g3
    have Q4 := hide g4
    have Q5 := hide g5
    clear g1 g2 g3 g4 g5 g6
    have hm1 : es.length + 1 ≤ maxLen := by unfold maxLen; omega
    have hm1' : (es.length + 1) * 56 ≤ 140737488355328 := by omega
    go_wp2_with (at_builtin; refine wpList_append_put rfl (.tmp 10) (.tmp 13) 24 rfl w.heap.size 36 i1 (.agg #[.string ⟨#[]⟩, .int .i64 0, .int .i64 0, .slice none 0 0]) 4 56 Tryz.underlying24 ki kz0 kz1 kz2 rfl (by decide) _ _ _ rfl Q2.out _ rfl rfl rfl (by intro u hu; simp at hu; rcases hu with rfl | rfl | rfl | rfl <;> rfl) hm1 hm1' (by omega) ?_; intro av4 cv4 w4 hown4 hk4; have O4 := hide hown4; have K4 := hide hk4; clear hown4 hk4)
    go_ret
    refine ⟨es ++ [e], av4, cv4, by rw [List.length_append]; rfl, goodH_snoc HRi.out.rise HRi.out.home, by rw [List.length_append]; simp; omega, fun y hy => ?_, ?_, ?_, ?_⟩
    · rcases List.mem_append.1 hy with hy | hy
      · exact HRi.out.small y hy
      · simp only [List.mem_singleton] at hy; subst hy; omega
    · rw [List.length_append]
      exact GE.push2 Q1.out Q2.out Q3.out Q4.out Q5.out (by omega) (by omega) O3.out O4.out K4.out
    · exact (S3.out.kept K4.out (fun b hb e => by have := (Q2.out.lt b e).1; omega)).mono (by omega)
    · exact K3.out.trans_own K4.out (fun b hb e => by have := (Q2.out.lt b e).1; omega)
  · by_cases h1 : i = 1
    · subst h1
      go_wp2_with fail
      refine (bentLay_e p zs _ _ S2.out HU.out (by omega) hl).mono ?_
      rintro r w3 ⟨fs, fv, fc, rfl, hgd, hfl, hfs, hGf, s3, k3⟩
      have HGd := hide hgd
      have HFs := hide hfs
      have GF := hide (hGf.mono hsz2)
      have S3 := hide s3
      have K3 := hide (K2.out.trans k3)
      clear hgd hfs hGf s3 k3
      go_wp2_with fail
      go_ret
      exact ⟨fs, fv, fc, rfl, HGd.out, by omega, HFs.out, GF.out, S3.out.mono (by omega), K3.out⟩
    · by_cases h2 : i = 2
      · subst h2
        have hby : i1.bytes * 41 ≤ 281474976710656 := by rw [kz2]; omega
        have hml : 41 ≤ maxLen := by unfold maxLen; omega
        go_wp2_with (at_make; refine wpList_make_full _ rfl (.const (.int .i64 41)) (.const (.int .i64 41)) 24 rfl w2.heap.size 36 i1 (.agg #[.string ⟨#[]⟩, .int .i64 0, .int .i64 0, .slice none 0 0]) 4 Tryz.underlying24 ki kz0 kz1 .i64 .i64 _ _ 41 rfl rfl rfl rfl hby hml (Nat.le_refl _) ?_; intro w3 ho3 hg3; have O3 := hide ho3; have GW := hide hg3; clear ho3 hg3)
        have B3 : Hid (Below w2.heap.size w2 w3) := (Below.refl _ _).grown GW.out (Nat.le_refl _) (fun k hk => by simp at hk)
        have G3 := hide (GE.mono (B' := w.heap.size) (GE.zeros (T := w3.heap.size) O3.out (fun b hb => (O3.out.lt b hb).2)) (by omega))
        have hlr : (List.replicate 41 zEn).length = 41 := by simp
        go_wp2_with fail
        go_ret
        refine ⟨List.replicate 41 zEn, some ⟨w2.heap.size, 0, none⟩, 41, by rw [hlr]; rfl, goodH_first (e := zEn) (tl := List.replicate 40 zEn) (by decide), by rw [hlr]; decide, fun y hy => ?_, by rw [hlr]; exact G3.out, (S2.out.below B3.out).mono (by omega), K2.out.trans (Kept.of_below B3.out)⟩
        rw [(List.mem_replicate.1 hy).2]
        simp [zEn]
      · have e0 : ((i : Int) == 0) = false := by simp; omega
        have e1 : ((i : Int) == 1) = false := by simp; omega
        have e2 : ((i : Int) == 2) = false := by simp; omega
        clear h0 h1 h2
        go_wp2_with fail
        go_ret
        exact ⟨es, lv, lc, rfl, goodH_rise HRi.out.rise, by omega, HRi.out.small, G2.out, S2.out.mono (by omega), K2.out⟩


end Go.Proofs.YtmpojjlpopimfaaGreat
