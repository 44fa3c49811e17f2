/-
  The model's WriteTree and its draw; what is written, removed and made in a tree, told of lists.
-/
import Derived.Test.YtbdbhdgfifojoabGreatDoorTreF
import Derived.Test.YtbdbhdgfifojoabGreatDoorTreJ
import Derived.Test.YtbdbhdgfifojoabGreatDoorTreG
import Derived.Test.YtbdbhdgfifojoabGreatDoorTreT
import Derived.Test.YtbdbhdgfifojoabGreatDoorDrawF
namespace Go.Proofs.YtbdbhdgfifojoabGreatDoor
open Go.RowKit Go.Maps
set_option linter.unusedVariables false
attribute [local go_sem ↓] Go.wp_at_zero Go.wp_at_succ

set_option maxRecDepth 100000 in
set_option maxHeartbeats 800000 in
theorem l6Asked_any (a : Option Addr) (c n : Nat) (es : List En) (p : Bs) (w : World) (h : RdE w a es) (hn : n = es.length) (hl : es.length ≤ 1048576) (hs : SmallE es) (hp : p.length ≤ 1048576) (hg : GoodH es) :
    Calls Tryz.prog 55 #[.slice a n c, .string (str p)] w fun r w' => r = .returned (.int .i64 (askT es p)) ∧ Below w.heap.size w w' := by
  subst hn
  have HT := hide (l6Fault_any a c es.length es w h rfl hl hs)
  rw [← hg.tree] at HT
  have HA := hide (show askT es p = if treFaultP es = 0 then faultP p else treFaultP es from rfl)
  generalize askT es p = G at *
  generalize treFaultP es = F at *
  clear h hs hg
  go_enter Tryz.func55, Tryz.ntmps55
  go_wp2_with fail
  refine HT.out.mono ?_
  rintro r w1 ⟨rfl, hb1⟩
  have B1 := hide hb1
  clear hb1 HT
  by_cases hz : F = 0
  · have HG := hide (show G = faultP p from by rw [HA.out, if_pos hz])
    rw [hz]
    clear hz HA
    go_wp2_with fail
    refine (l3Fault_any (str p) _ (by rw [str_size]; omega)).mono ?_
    rintro r w2 ⟨rfl, hb2⟩
    rw [str_data, ← HG.out]
    have B2 := hide (below_next B1.out hb2)
    clear hb2
    go_wp2_with fail
    go_ret
    exact ⟨rfl, B2.out⟩
  · have HG := hide (show G = F from by rw [HA.out, if_neg hz])
    have hz2 : (F != 0) = true := by simp; exact hz
    clear hz HA
    go_wp2_with fail
    go_ret
    exact ⟨ret_int HG.out.symm, B1.out⟩

set_option maxRecDepth 100000 in
set_option maxHeartbeats 1600000 in
theorem specWriteTree_any (a : Option Addr) (c n : Nat) (es : List En) (p : Bs) (da : Option Addr) (dc : Nat) (ds : List Int) (w : World) (h : RdE w a es) (hn : n = es.length) (hl : es.length ≤ 1048576) (hs : SmallE es) (hp : p.length ≤ 1048576) (hg : GoodH es) (hd : Reads .u8 w da ds) (hu : U8 ds) (hc : ds.length ≤ dc) (hdl : ds.length ≤ 1048576) :
    Calls Tryz.prog 18 #[.slice a n c, .string (str p), .slice da ds.length dc] w (ResT (wrCode es p ds) (wrRep es p ds) (wrList es p ds) w) := by
  subst hn
  have X0 := hide (Box3.new w (.int .i64 0) (.int .i64 0) (.slice none 0 0) 45)
  have B0 := hide (below_alloc w (.cells #[.int .i64 0, .int .i64 0, .slice none 0 0] 45))
  have HR := hide h
  have HS := hide hs
  have HD := hide hd
  have HU := hide hu
  have HGd := hide hg
  clear h hs hd hu hg
  go_enter Tryz.func18, Tryz.ntmps18
  go_wp2_with fail
  refine (l6Asked_any a c es.length es p _ (HR.out.below B0.out) rfl hl HS.out hp HGd.out).mono ?_
  rintro r w1 ⟨rfl, hb1⟩
  have B1 := hide (below_next B0.out hb1)
  have X1 := hide (X0.out.below hb1)
  have hb0 : w.heap.size < w1.heap.size := X1.out.lt
  clear hb1 X0 B0
  by_cases hz : askT es p = 0
  · obtain ⟨hRT, hpf⟩ := ask_tree hz
    have HZ := hide hz
    rw [hz]
    clear hz
    by_cases h24 : 24 < ds.length
    · have HCC := hide (wr_many (es := es) (p := p) HZ.out h24)
      have hg24 : (24 : Int) < (ds.length : Int) := by omega
      obtain ⟨⟨t0, t1, t2⟩, t3, t4, t5⟩ := X1.out
      go_wp2_with fail
      exact bodyPost_ret (v := .agg #[.int .i64 2, .int .i64 0, .slice none 0 0]) (by simp [results, Tryz.results18, go_sem, t0, t1, t2]) rfl (by rw [HCC.out.1, HCC.out.2.1, HCC.out.2.2]; exact ResT.bad (Nat.le_refl _) B1.out)
    · have HCC := hide (wr_ok (es := es) (p := p) HZ.out h24)
      have hg24 : ¬ (24 : Int) < (ds.length : Int) := by omega
      have HWR := hide (l6Write_any a c es.length es p da dc ds w1 (HR.out.below B1.out) rfl hRT hpf (HD.out.below B1.out) HU.out hc (by omega))
      clear hRT
      go_wp2_with fail
      refine HWR.out.mono ?_
      rintro r w2 ⟨av2, cv2, rfl, hG2, hb2⟩
      obtain ⟨⟨t0, t1, t2⟩, t3, t4, t5⟩ := X1.out.below hb2
      have G2 := hide hG2
      have B2 := hide (below_next B1.out hb2)
      clear hG2 hb2 HWR
      go_wp2_with fail
      exact bodyPost_ret (v := .agg #[.int .i64 0, .int .i64 (writeC es p), .slice av2 (writeL es p ds).length cv2]) (by simp [results, Tryz.results18, go_sem, t0, t1, t2]) rfl (by rw [HCC.out.1, HCC.out.2.1, HCC.out.2.2]; exact ResT.of hb0 (Nat.le_refl _) rfl G2.out B2.out)
  · have HCC := hide (wr_ask (ds := ds) hz)
    generalize askT es p = F at *
    have hz2 : (F != 0) = true := by simp; exact hz
    clear hz
    obtain ⟨⟨t0, t1, t2⟩, t3, t4, t5⟩ := X1.out
    go_wp2_with fail
    exact bodyPost_ret (v := .agg #[.int .i64 F, .int .i64 0, .slice none 0 0]) (by simp [results, Tryz.results18, go_sem, t0, t1, t2]) rfl (by rw [HCC.out.1, HCC.out.2.1, HCC.out.2.2]; exact ResT.bad (Nat.le_refl _) B1.out)

set_option maxRecDepth 100000 in
set_option maxHeartbeats 1600000 in
theorem drawWriteTree_any (a : Option Addr) (cap : Nat) (zs : List Int) (w : World) (h : Reads .u8 w a zs) (hu : U8 zs) (hl : zs.length ≤ 1048576) :
    Calls Tryz.prog 16 #[.slice a zs.length cap] w fun r w' => ∃ (es : List En) (av : Option Addr) (cv : Nat) (q : Bs) (da : Option Addr) (dc : Nat) (ds : List Int), r = .returned (.tuple #[.slice av es.length cv, .string (str q), .slice da ds.length dc]) ∧ es.length ≤ cv ∧ GoodH es ∧ es.length ≤ 41 ∧ SmallE es ∧ RdE w' av es ∧ q.length ≤ 1048576 ∧ ds.length ≤ 25 ∧ U8 ds ∧ Reads .u8 w' da ds ∧ ds.length ≤ dc ∧ Below w.heap.size w w' := by
  obtain ⟨i0, hi0, hz0, hz1, hz2⟩ := info_parts Tryz.infoU8
  have HC := hide (withTree_e a cap zs w h hu hl)
  have HR := hide h
  have HU := hide hu
  clear h hu
  go_enter Tryz.func16, Tryz.ntmps16
  go_wp2_with fail
  refine HC.out.mono ?_
  rintro r w2 ⟨es, av, cv, q, rfl, hgd, hle, hsm, hG, hq, hb⟩
  have H1 := hide hgd
  have H2 := hide hsm
  have H3 := hide hG.rd
  have hcv : es.length ≤ cv := by
    by_cases h0 : 0 < es.length
    · obtain ⟨g, -, hc⟩ := hG.addr rfl (.inl h0)
      exact hc
    · omega
  have B2 := hide hb
  have hs2 := hb.size
  clear hgd hsm hG hb HC
  have RD := hide ((HR.out.below B2.out).below (below_alloc w2 (.cells #[.int .u8 3] 5)))
  have OWN := hide (row_one w2 3)
  have hm1 : 1 + zs.length ≤ maxLen := by unfold maxLen; omega
  have hm2 : (1 + zs.length) * 1 ≤ 140737488355328 := by omega
  go_wp2_with (at_builtin; refine wpList_append_take rfl (.tmp 14) (.tmp 15) 22 rfl w2.heap.size 5 i0 .u8 1 Tryz.underlying22 hi0 hz0 hz1 hz2 w2.heap.size 1 1 [3] rfl OWN.out a zs.length cap zs rfl rfl RD.out (1 + zs.length) rfl hm1 hm2 (by simp) ?_; intro ev ec w3 hown3 hk3; have O3 := hide hown3; have BB3 := hide ((below_alloc w2 (.cells #[.int .u8 3] 5)).trans (hk3.below (B := w2.heap.size) (by simp) (fun b hb e => by have : b = w2.heap.size := e; omega))); clear hown3 hk3)
  have hle2 : ([3] ++ zs).length = 1 + zs.length := by simp; omega
  have RD3 := hide (ownInts_reads (zs := [3] ++ zs) O3.out hle2.symm)
  have HU4 := hide (show U8 ([3] ++ zs) from fun z hz => by
    rcases List.mem_append.1 hz with hz | hz
    · simp only [List.mem_singleton] at hz; subst hz; omega
    · exact HU.out z hz)
  rw [← hle2]
  refine (l1Data_big ev ec ([3] ++ zs) _ RD3.out HU4.out (by rw [hle2]; omega)).mono ?_
  rintro e w4 ⟨v, ds, rfl, hdl, hdu, ho4, hb4⟩
  obtain ⟨da, dc, rfl⟩ := ownsRow_shape ho4
  have hcap := ownsRow_cap ho4
  have R4 := hide (ownInts_reads ho4 rfl)
  have BB4 := hide (below_next BB3.out hb4)
  have B4 := hide (below_next B2.out BB4.out)
  have H4 := hide (H3.out.below BB4.out)
  have DU := hide hdu
  clear ho4 hb4 hdu hle2 BB3
  go_wp2_with fail
  exact bodyPost_ret (v := .tuple #[.slice av es.length cv, .string (str q), .slice da ds.length dc]) (by simp [results, Tryz.results16, go_sem]) rfl ⟨es, av, cv, q, da, dc, ds, rfl, hcv, H1.out, hle, H2.out, H4.out, by omega, hdl, DU.out, R4.out, hcap, B4.out⟩

theorem lines_ge {e : En} : ∀ {es : List En}, e ∈ es → (entText e).length + 1 ≤ (linesB es).length
  | [], h => by simp at h
  | x :: r, h => by
    have e1 : linesB (x :: r) = (entText x ++ [10]) ++ linesB r := by simp [linesB]
    rw [e1, List.length_append]
    rcases List.mem_cons.1 h with rfl | h
    · simp
    · have := lines_ge h; omega
/-- What the law asks of the lists. -/
structure Trees (es : List En) (p : Bs) (ds : List Int) (T1 D M : List En) : Prop where
  w0 : wrCode es p ds = 0 ∧ wrRep es p ds = 0 ∧ wrList es p ds = T1
  r1 : RightT T1
  r2 : RightT D
  r3 : RightT M
  s1 : statC T1 p = 0 ∧ statL T1 p = [fileE p ds]
  d1 : askT T1 p = 0 ∧ remRep T1 p = 0 ∧ remList T1 p = D
  s2 : statC D p = 4
  all : ∀ y ∈ es, y.path ≠ p → statC D y.path = 0 ∧ statL D y.path = [y]
  m1 : askT D p = 0 ∧ mkRep D p = 0 ∧ mkList D p = M
  m2 : mkRep M p = 7
  text : 5 < (treeT T1).length
theorem ask_ok {es : List En} {p : Bs} (h : RightT es) (hp : faultP p = 0) : askT es p = 0 := by rw [askT, if_pos (rightT_P.2 h), hp]
theorem stat_some {es : List En} {p : Bs} {e : En} (h : RightT es) (hp : faultP p = 0) (hf : findE es p = some e) : statC es p = 0 ∧ statL es p = [e] := by
  have h1 := statC_ok (rightT_P.2 h) hp
  rw [hf] at h1
  have h2 : statC es p = 0 := h1
  refine ⟨h2, ?_⟩
  rw [statL, if_pos h2, hf]
  rfl
theorem trees_of {es : List En} {p : Bs} {ds : List Int} (h : wrCode es p ds = 0) (h2 : wrRep es p ds = 0) : ∃ T1 D M, Trees es p ds T1 D M := by
  have ha : askT es p = 0 := by
    by_cases h0 : askT es p = 0
    · exact h0
    · exact absurd (((wr_ask h0).1).symm.trans h) h0
  have hl : ¬ 24 < ds.length := fun h0 => by rw [(wr_many ha h0).1] at h; cases h
  obtain ⟨hR, hp⟩ := ask_tree ha
  obtain ⟨-, w2, w3⟩ := wr_ok (ds := ds) ha hl
  have hw : writeC es p = 0 := by rw [← w2]; exact h2
  have hwl : writeL es p ds = putE es (fileE p ds) := by rw [writeL, if_pos hw]
  have hfe := fit_file hp (show ds.length ≤ 24 by omega)
  have hp0 : p ≠ [] := fun e => by rw [e] at hp; exact faultP_nil hp
  have r1 := right_write hR hp hfe hw
  have hmem : fileE p ds ∈ putE es (fileE p ds) := mem_putE.2 (.inl rfl)
  have f1 : findE (putE es (fileE p ds)) p = some (fileE p ds) := rise_find r1.rise hmem
  have k1 : kidsE (putE es (fileE p ds)) p = [] := kids_none.2 (r1.file_bare hp0 (fun d hd hdp => by rw [r1.only hd hmem hdp]; rfl))
  have c1 : removeC (putE es (fileE p ds)) p = 0 := by simp [removeC, f1, k1]
  have r2 := right_remove r1 c1
  have inD : ∀ y ∈ es, y.path ≠ p → y ∈ offE (putE es (fileE p ds)) p := fun y hy hn => mem_offE.2 ⟨mem_putE.2 (.inr ⟨hy, by
    have hb := write_bare hR hp hw y hy
    have e1 : (fileE p ds).path = p := rfl
    simp [keepE, e1, hn, hb]⟩), hn⟩
  have f2 : findE (offE (putE es (fileE p ds)) p) p = none := findE_gone _ _
  have hh : homeP (offE (putE es (fileE p ds)) p) p = true := by
    rw [homeP_iff]
    rcases homeP_iff.1 ((homeC_home hR).1 (write_ok hw).1) with h0 | ⟨d, hd, hdp, hdk⟩
    · exact .inl h0
    · by_cases h0 : parentP p = []
      · exact .inl h0
      · exact .inr ⟨d, inD d hd (by rw [hdp]; exact parent_ne hp h0), hdp, hdk⟩
  have hlen : (offE (putE es (fileE p ds)) p).length < 40 := by have h1 := offE_lt hmem (p := p) rfl; have h2 := r1.len; omega
  have c2 : makeC (offE (putE es (fileE p ds)) p) p = 0 := by
    have h1 := (homeC_home r2).2 hh
    have h3 : ¬ 40 ≤ (offE (putE es (fileE p ds)) p).length := by omega
    simp [makeC, h1, f2, h3]
  have r3 := right_make r2 hp c2
  have hm3 : dirE p ∈ putE (offE (putE es (fileE p ds)) p) (dirE p) := mem_putE.2 (.inl rfl)
  have f3 : findE (putE (offE (putE es (fileE p ds)) p) (dirE p)) p = some (dirE p) := rise_find r3.rise hm3
  have c3 : makeC (putE (offE (putE es (fileE p ds)) p) (dirE p)) p = 7 := by
    have h1 := (homeC_home r3).2 (r3.home _ hm3)
    have h4 : homeC (putE (offE (putE es (fileE p ds)) p) (dirE p)) p = 0 := h1
    simp [makeC, h4, f3]
  refine ⟨putE es (fileE p ds), offE (putE es (fileE p ds)) p, putE (offE (putE es (fileE p ds)) p) (dirE p), ⟨h, h2, by rw [w3, hwl]⟩, r1, r2, r3, stat_some r1 hp f1, ⟨ask_ok r1 hp, by rw [remRep, if_pos (ask_ok r1 hp)]; exact c1, by rw [remList, if_pos (ask_ok r1 hp), removeL, if_pos c1]⟩, ?_, fun y hy hn => stat_some r2 (hR.path hy) (rise_find r2.rise (inD y hy hn)), ⟨ask_ok r2 hp, by rw [mkRep, if_pos (ask_ok r2 hp)]; exact c2, by rw [mkList, if_pos (ask_ok r2 hp), makeL, if_pos c2]⟩, by rw [mkRep, if_pos (ask_ok r3 hp)]; exact c3, ?_⟩
  · have h1 := statC_ok (rightT_P.2 r2) hp
    rw [f2] at h1
    exact h1
  · rw [treeT, if_pos (rightT_P.2 r1)]
    have h1 := lines_ge hmem
    rw [entText_good hfe, textE_file (e := fileE p ds) rfl] at h1
    have h3 := path_pos hp
    have e1 : (fileE p ds).path = p := rfl
    rw [e1] at h1
    have h4 : 1 ≤ (digB (fileE p ds).size).length := by unfold digB; split <;> simp
    have h5 : 1 ≤ (hexesB (fileE p ds).chunks).length := by
      have hne : hexesB (fileE p ds).chunks ≠ [] := by
        unfold hexesB
        split
        · simp
        · rename_i hc
          intro e2
          cases hq : (fileE p ds).chunks with
          | nil => exact hc hq
          | cons z zs' =>
            rw [hq, List.map_cons] at e2
            have h6 := hexB_length z
            cases hz : zs'.map hexB with
            | nil => rw [hz] at e2; simp only [joinC] at e2; rw [e2] at h6; cases h6
            | cons q r => rw [hz, joinC_two 44 _ (by simp)] at e2; have := congrArg List.length e2; simp at this
      exact List.length_pos_iff.2 hne
    simp only [List.length_append, List.length_cons, List.length_nil] at h1
    omega
end Go.Proofs.YtbdbhdgfifojoabGreatDoor
