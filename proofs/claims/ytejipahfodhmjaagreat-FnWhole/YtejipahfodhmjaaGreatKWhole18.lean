/-
  Texts put together: SeeI SeeS Asked Missing Join LazL.
-/
import Derived.Test.YtejipahfodhmjaaGreatKWhole15
import Derived.Test.YtejipahfodhmjaaGreatKWhole6
import Derived.Test.YtejipahfodhmjaaGreatKWhole3
import Derived.Test.YtejipahfodhmjaaGreatKWhole17
import Derived.Test.YtejipahfodhmjaaGreatKWhole16
import Derived.Test.YtejipahfodhmjaaGreatKWhole11
import Derived.Test.YtejipahfodhmjaaGreatKWhole4
namespace Go.Proofs.YtejipahfodhmjaaGreat
open Go.RowKit Go.Maps
set_option linter.unusedVariables false
attribute [local go_sem ↓] Go.wp_at_zero Go.wp_at_succ

theorem asT_chunks (e : En) : (asT e).chunks = e.chunks := by unfold asT; split <;> rfl

set_option maxRecDepth 100000 in
set_option maxHeartbeats 3200000 in
theorem implLookOver_any (a : Option Addr) (c n : Nat) (ls : List (List En)) (p : Bs) (w : World) (h : RdL w a ls) (hn : n = ls.length) (hl : ls.length ≤ 1048576) (hs : SmallL ls) (hp : p.length ≤ 1048576) :
    Calls Tryz.prog 13 #[.slice a n c, .string (str p)] w (ResE (plcC ls p) (lookL ls p) w) := by
  subst hn
  have X0 := hide (Box.new w (.int .i64 0) (.slice none 0 0) 37)
  have B0 := hide (below_alloc w (.cells #[.int .i64 0, .slice none 0 0] 37))
  have HR := hide h
  have HSL := hide hs
  have HAs := hide (implAskL_any a c ls.length ls p _ (h.below B0.out) rfl hl hs hp)
  clear h hs
  by_cases hz : askL ls p = 0
  · obtain ⟨h4, hRs, hpf⟩ := askL_right hz
    rw [hz] at HAs
    have HRs := hide (rights_sight hRs HSL.out)
    go_enter Tryz.func13, Tryz.ntmps13
    go_wp2_with fail
    refine HAs.out.mono ?_
    rintro r w1 ⟨rfl, hb1⟩
    have B1 := hide (below_next B0.out hb1)
    have X1 := hide (X0.out.below hb1)
    clear hb1 X0 B0 HAs
    go_wp2_with fail
    refine (sightOf_any a c ls.length ls w1 (HR.out.below B1.out) rfl h4 HRs.out).mono ?_
    rintro r w2 ⟨b, N, rfl, hbb, hN, hM, hb2⟩
    have HM := hide hM
    have BB2 := hide hb2
    have B2 := hide (below_next B1.out hb2)
    have X2 := hide (X1.out.below hb2)
    have HSA := hide (seenAt_any b N p (seeL ls) w1 w2 hM hp)
    clear hM hb2
    unfold ResW at HSA
    cases hsn : seenG (seeL ls) p 4 with
    | none =>
      have HC := hide (plc_none hz hsn)
      rw [hsn] at HSA
      clear hz hsn hRs hpf
      go_wp2_with fail
      refine HSA.out.mono ?_
      rintro r w3 ⟨⟨v, s, rfl⟩, hb3⟩
      have B3 := hide (below_next (below_next B2.out hb3) (below_alloc w3 (.cells #[.int .i64 v, .string s] 86)))
      obtain ⟨⟨t0, t1⟩, t2, t3⟩ := X2.out.below (below_next hb3 (below_alloc w3 (.cells #[.int .i64 v, .string s] 86)))
      clear hb3
      go_wp2_with fail
      exact bodyPost_ret (v := .agg #[.int .i64 4, .slice none 0 0]) (by simp [results, Tryz.results13, go_sem, t0, t1]) rfl (by rw [HC.out.1, HC.out.2.2]; exact ResE.bad (Nat.le_refl _) B3.out)
    | some k =>
      obtain ⟨hk4, e, he, -⟩ := seen_some hsn
      have HC := hide (plc_some hz hsn he)
      rw [hsn] at HSA
      obtain ⟨es, hes, hee, -⟩ := seeL_mem he
      have hkk := ent_kinds ((hRs es hes).ent e hee)
      have hsm := (HSL.out es hes).2 e hee
      clear hz hsn hRs hpf hes hee
      go_wp2_with fail
      refine HSA.out.mono ?_
      rintro r w3 ⟨rfl, hb3⟩
      have BA := hide (below_alloc w3 (.cells #[.int .i64 k, .string (str p)] 86))
      have B3 := hide (below_next (below_next B2.out hb3) BA.out)
      have X3 := hide (X2.out.below (below_next hb3 BA.out))
      have BB3 := hide (below_next (below_next BB2.out hb3) BA.out)
      obtain ⟨x, cc, -, hlk, hrd⟩ := ((HM.out.below hb3).below BA.out).yes (by omega : k ≤ 100) hp he
      have HL := hide hlk
      have HRc := hide (hrd.below BB3.out)
      have Y3 := hide (Box.new w3 (.int .i64 k) (.string (str p)) 86)
      unfold spotV
      clear hb3 hlk hrd he HM HSA X2 B2 BB2 BA
      obtain ⟨⟨y0, y1⟩, y2, y3⟩ := Y3.out
      unfold spotV at HL
      go_wp2_with (at_lookup; refine wpList_lookS rfl _ _ 83 false rfl _ _ _ rfl rfl HL.out ?_)
      refine (ofTree_any e x cc _ hkk).mono ?_
      rintro r w4 ⟨rfl, hb4⟩
      have B4 := hide (below_next B3.out hb4)
      have X4 := hide (X3.out.below hb4)
      have BA5 := hide (below_alloc w4 (.cells #[.int .i64 (asT e).size, .slice x (asT e).chunks.length cc, .string (str (asT e).path), .int .i64 (asT e).kind] 91))
      have HR4 := hide (show Reads .i64 w4 x (asT e).chunks by rw [asT_chunks]; exact HRc.out.below hb4)
      have RI5 := hide (RdI.fresh (e := asT e) (c := cc) (t := 91) HR4.out)
      have hsm2 : (asT e).path.length ≤ 1048576 ∧ (asT e).chunks.length ≤ 1048576 := by rw [asT_path, asT_chunks]; exact hsm
      have B5 := hide (below_next B4.out BA5.out)
      have X5 := hide (X4.out.below BA5.out)
      have hs4 := B4.out.size
      have hlt5 : w.heap.size < (w4.alloc (.cells #[.int .i64 (asT e).size, .slice x (asT e).chunks.length cc, .string (str (asT e).path), .int .i64 (asT e).kind] 91)).heap.size := X5.out.1.lt
      clear hb4 y0 y1 y2 y3 Y3 HL HRc HR4 X3 B3 BB3 X4 BA5
      unfold itV
      generalize asT e = E at *
      go_wp2_with fail
      generalize w4.alloc (.cells #[.int .i64 E.size, .slice x E.chunks.length cc, .string (str E.path), .int .i64 E.kind] 91) = W5 at *
      refine (entriesOf_any _ _ 1 [E] _ RI5.out rfl (by simp) (fun y hy => by simp only [List.mem_singleton] at hy; subst hy; exact hsm2)).mono ?_
      rintro r w7 ⟨av7, cv7, rfl, hG7, hb7⟩
      obtain ⟨⟨t0, t1⟩, t2, t3⟩ := X5.out.below hb7
      have G7 := hide hG7
      have B7 := hide (below_next B5.out hb7)
      clear hG7 hb7
      go_wp2_with fail
      exact bodyPost_ret (v := .agg #[.int .i64 0, .slice av7 1 cv7]) (by simp [results, Tryz.results13, go_sem, t0, t1]) rfl (by rw [HC.out.1, HC.out.2.2]; exact ResE.of (w2 := w1) hlt5 (Nat.le_refl _) rfl G7.out B7.out)
  · have HC := hide (plc_bad hz)
    generalize askL ls p = F at *
    have hz2 : (F != 0) = true := by simp; exact hz
    clear hz
    go_enter Tryz.func13, Tryz.ntmps13
    go_wp2_with fail
    refine HAs.out.mono ?_
    rintro r w1 ⟨rfl, hb1⟩
    have B1 := hide (below_next B0.out hb1)
    obtain ⟨⟨t0, t1⟩, t2, t3⟩ := X0.out.below hb1
    clear hb1
    go_wp2_with fail
    exact bodyPost_ret (v := .agg #[.int .i64 F, .slice none 0 0]) (by simp [results, Tryz.results13, go_sem, t0, t1]) rfl (by rw [HC.out.1, HC.out.2.2]; exact ResE.bad (Nat.le_refl _) B1.out)
end Go.Proofs.YtejipahfodhmjaaGreat

namespace Go.Proofs.YtejipahfodhmjaaGreat
open Go.RowKit Go.Maps
set_option linter.unusedVariables false
attribute [local go_sem ↓] Go.wp_at_zero Go.wp_at_succ

theorem leftS_some {S : Nat → Bs → Option En} {i : Nat} {p : Bs} {e : En} : leftS S i p = some e ↔ seenG S p 4 = some i ∧ S i p = some e := by
  unfold leftS goneS
  by_cases h : seenG S p 4 = some i <;> simp [h]
theorem left_one {ls : List (List En)} : OneP (leftS (seeL ls)) := by
  intro i j p q e f h1 h2 hpe
  obtain ⟨s1, e1⟩ := leftS_some.1 h1
  obtain ⟨s2, e2⟩ := leftS_some.1 h2
  obtain ⟨_, _, _, p1⟩ := seeL_mem e1
  obtain ⟨_, _, _, p2⟩ := seeL_mem e2
  have hpq : p = q := by rw [← p1, ← p2, hpe]
  subst hpq
  rw [s1] at s2
  rw [Option.some.inj s2]
theorem left_all {ls : List (List En)} (hsm : SmallL ls) (e : En) : (∃ i p, i ≤ 100 ∧ p.length ≤ 1048576 ∧ leftS (seeL ls) i p = some e) ↔ ∃ k, seenL ls e.path = some k ∧ seeL ls k e.path = some e := by
  constructor
  · rintro ⟨i, p, -, -, h⟩
    obtain ⟨s1, e1⟩ := leftS_some.1 h
    obtain ⟨_, _, _, p1⟩ := seeL_mem e1
    rw [p1]
    exact ⟨i, s1, e1⟩
  · rintro ⟨k, s1, e1⟩
    obtain ⟨es, hes, he, -⟩ := seeL_mem e1
    have hk := (seen_some (show seenG (seeL ls) e.path 4 = some k from s1)).1
    exact ⟨k, e.path, by omega, ((hsm es hes).2 e he).1, leftS_some.2 ⟨s1, e1⟩⟩
theorem all_len {ls : List (List En)} (h : ∀ es ∈ ls, Right es) : ∀ n, n ≤ ls.length → (allE (ls.take n)).length ≤ 12 * n
  | 0, _ => by simp [allE]
  | n + 1, hn => by
    have ih := all_len h n (by omega)
    have hL : ls[n]? = some (ls[n]'(by omega)) := List.getElem?_eq_getElem (by omega)
    have hm := (h _ (List.mem_of_getElem? hL)).len
    generalize ls[n]'(by omega) = L at *
    have ht : ls.take (n + 1) = ls.take n ++ [L] := by rw [List.take_add_one, hL]; rfl
    rw [ht, allE_snoc]
    have := merge_len L (allE (ls.take n))
    omega
def pthL (ls : List (List En)) : List Bs := if layersP ls = 0 then (allE ls).map En.path else []

set_option maxRecDepth 100000 in
set_option maxHeartbeats 3200000 in
theorem implPathsOver_any (a : Option Addr) (c n : Nat) (ls : List (List En)) (w : World) (h : RdL w a ls) (hn : n = ls.length) (hl : ls.length ≤ 1048576) (hs : SmallL ls) :
    Calls Tryz.prog 21 #[.slice a n c] w (ResN (layersP ls) (pthL ls) w) := by
  subst hn
  obtain ⟨i1, ki, kz0, kz1, kz2⟩ := info_parts infoS
  have X0 := hide (Box.new w (.int .i64 0) (.slice none 0 0) 52)
  have B0 := hide (below_alloc w (.cells #[.int .i64 0, .slice none 0 0] 52))
  have HR := hide h
  have HSL := hide hs
  have HLF := hide (implLayersFault_any a c ls.length ls _ (h.below B0.out) rfl hl hs)
  clear h hs
  by_cases hz : layersP ls = 0
  · obtain ⟨h4, hRs⟩ := layersP_zero.1 hz
    rw [hz] at HLF ⊢
    have HRr := hide hRs
    have HRs := hide (rights_sight hRs HSL.out)
    have HCC := hide (show pthL ls = (allE ls).map En.path from by rw [pthL, if_pos hz])
    clear hz hRs
    go_enter Tryz.func21, Tryz.ntmps21
    go_wp2_with fail
    refine HLF.out.mono ?_
    rintro r w1 ⟨rfl, hb1⟩
    have B1 := hide (below_next B0.out hb1)
    have X1 := hide (X0.out.below hb1)
    have hlt1 : w.heap.size < w1.heap.size := X1.out.1.lt
    clear hb1 X0 B0 HLF
    go_wp2_with fail
    refine (sightOf_any a c ls.length ls w1 (HR.out.below B1.out) rfl h4 HRs.out).mono ?_
    rintro r w2 ⟨b, N, rfl, hbb, hN, hM, hb2⟩
    have HM := hide hM
    have BB2 := hide hb2
    clear hM hb2
    go_wp2_with fail
    refine (seen_any b N (seeL ls) w1 w2 HM.out).mono ?_
    rintro r w3 ⟨b3, rfl, hb3b, hM3, hb3⟩
    have HM3 := hide hM3
    have BB3 := hide (below_next BB2.out hb3)
    clear hM3 hb3 HM BB2
    go_wp2_with fail
    refine (rising_any b3 N (leftS (seeL ls)) w1 w3 HM3.out (by omega) left_one BB3.out).mono ?_
    rintro r w4 ⟨av, cv, rs, rfl, hri, hmem, hRI, hb4⟩
    have RK := hide hRI
    have BB4 := hide (below_next BB3.out hb4)
    have HPL := hide (show pthL ls = rs.map En.path from by
      rw [HCC.out]
      exact (all_paths (all_rise HRr.out h4 hri (fun e => (hmem e).trans (left_all HSL.out e)))).symm)
    have HKM := hide (show ∀ e ∈ rs, e.path.length ≤ 1048576 from fun e he => by
      obtain ⟨k, s1, e1⟩ := (left_all HSL.out e).1 ((hmem e).1 he)
      obtain ⟨es, hes, hee, -⟩ := seeL_mem e1
      exact ((HSL.out es hes).2 e hee).1)
    have hkl : rs.length ≤ 48 := by
      have h1 := all_len HRr.out ls.length (Nat.le_refl _)
      rw [List.take_length] at h1
      have h2 := congrArg List.length (HCC.out.symm.trans HPL.out)
      rw [List.length_map, List.length_map] at h2
      omega
    have hs4 := BB4.out.size
    clear hri hmem hRI hb4 HM3 BB3 HCC
    go_wp2_with fail
    go_loopw [4, 18] (fun v i wr => ∃ k : Nat, k ≤ rs.length ∧ i = .int .i64 k ∧ Hid (OwnS w4.heap.size wr v ((rs.take k).map En.path)) ∧ Hid (Below w4.heap.size w4 wr)) (fun _ i _ => rs.length - (intOf i).toNat)
    case atStart => exact ⟨0, Nat.zero_le _, rfl, hide (OwnS.nil _ _), hide (Below.refl _ _)⟩
    case round =>
      obtain ⟨k, hk, rfl, HO, HW⟩ := hrel
      have hsz := HW.out.size
      obtain ⟨lv, lc, hv⟩ := HO.out.shape
      have hln : ((rs.take k).map En.path).length = k := by rw [List.length_map, List.length_take]; omega
      rw [hln] at hv
      subst hv
      by_cases hlt : k < rs.length
      · obtain ⟨bb, off, e, x, cc, rfl, hbk, he, c0, c1, c2, c3, hr⟩ := (RK.out.below HW.out).at hlt
        have hpl := HKM.out e (List.mem_of_getElem? he)
        have HX := hide he
        clear he hr
        have BA := hide (below_alloc wr (.cells #[.int .i64 e.size, .slice x e.chunks.length cc, .string (str e.path), .int .i64 e.kind] 91))
        go_wp2_with fail
        refine (clone_str (str e.path) _ (by rw [str_size]; omega)).mono ?_
        rintro r w5 ⟨rfl, hb5⟩
        have HW5 := hide (below_next HW.out (below_next BA.out hb5))
        have O5 : Hid (w5.ownsRow w4.heap.size 9 1 (.slice lv k lc) k (((rs.take k).map En.path).map vS)) := by have := HO.out.below (below_next BA.out hb5); unfold OwnS at this; rw [hln] at this; exact this
        have hsz5 := HW5.out.size
        have HLn := hide hln
        have hm1 : k + 1 ≤ maxLen := by unfold maxLen; omega
        have hm2 : (k + 1) * 16 ≤ 140737488355328 := by omega
        clear hb5 hln HO HW BA c0 c1 c2 c3
        go_wp2_with (at_builtin; refine wpList_append_one rfl (.tmp 22) (.tmp 26) 50 rfl w4.heap.size 9 i1 (.string ⟨#[]⟩) 1 16 Tryz.underlying50 ki kz0 kz1 kz2 rfl (by decide) _ _ _ rfl O5.out rfl rfl (by intro u hu; simp at hu; subst hu; rfl) hm1 hm2 hsz5 ?_; intro v' w6 hown6 hkept; have O6 := hide (show OwnS w4.heap.size w6 v' (((rs.take k).map En.path) ++ [e.path]) from OwnS.snoc (by rw [HLn.out]; exact hown6) rfl); have K6 := hide hkept; clear hown6 hkept)
        go_roundw
        case rel =>
          refine ⟨k + 1, by omega, by go_num, hide ?_, hide ?_⟩
          · rw [take_snoc_at HX.out, List.map_append]; exact O6.out
          · exact Kept.below_own HW5.out hsz5 O5.out K6.out
        case measure => simp [intOf]; omega
      · have hke : k = rs.length := by omega
        have HO2 : Hid (OwnS w4.heap.size wr (.slice lv k lc) (pthL ls)) := by have := HO.out; rw [List.take_of_length_le (by omega)] at this; rw [HPL.out]; exact hide this
        have HLn := hide (show k = (pthL ls).length from by rw [HPL.out, List.length_map]; exact hke)
        have BB5 := hide (below_next BB4.out HW.out)
        obtain ⟨⟨t0, t1⟩, t2, t3⟩ := X1.out.below BB5.out
        have B5 := hide (below_next B1.out BB5.out)
        clear hke hln
        go_wp2_with fail
        exact bodyPost_ret (v := .agg #[.int .i64 0, .slice lv k lc]) (by simp [results, Tryz.results21, go_sem, t0, t1]) rfl (ResN.of (by omega) (Nat.le_refl _) HLn.out HO2.out B5.out)
  · have HCC := hide (show pthL ls = [] from by rw [pthL, if_neg hz])
    generalize layersP ls = F at *
    have hz2 : (F != 0) = true := by simp; exact hz
    clear hz
    go_enter Tryz.func21, Tryz.ntmps21
    go_wp2_with fail
    refine HLF.out.mono ?_
    rintro r w1 ⟨rfl, hb1⟩
    have B1 := hide (below_next B0.out hb1)
    obtain ⟨⟨t0, t1⟩, t2, t3⟩ := X0.out.below hb1
    clear hb1
    go_wp2_with fail
    exact bodyPost_ret (v := .agg #[.int .i64 F, .slice none 0 0]) (by simp [results, Tryz.results21, go_sem, t0, t1]) rfl (by rw [HCC.out]; exact ResN.bad (Nat.le_refl _) B1.out)
end Go.Proofs.YtejipahfodhmjaaGreat

namespace Go.Proofs.YtejipahfodhmjaaGreat
open Go.RowKit Go.Maps
set_option linter.unusedVariables false

def digFault (zs : List Int) (i : Nat) : Option Int := if 0 ≤ zs.getD i 0 ∧ zs.getD i 0 ≤ 4294967295 then none else some 3
def asked (zs : List Int) : Int := if 3 < zs.length then 2 else firstBad (digFault zs) 0 zs.length
theorem asked_zero {zs : List Int} (h : asked zs = 0) : zs.length ≤ 3 ∧ ∀ i, i < zs.length → 0 ≤ zs.getD i 0 ∧ zs.getD i 0 ≤ 4294967295 := by
  unfold asked at h
  split at h
  · omega
  · refine ⟨by omega, fun i hi => ?_⟩
    have := firstBad_none (f := digFault zs) (fun j c hc => by unfold digFault at hc; split at hc <;> simp at hc; omega) _ _ h i (Nat.zero_le _) (by omega)
    unfold digFault at this
    split at this
    · assumption
    · cases this
def both (F : Int) (zs : List Int) : Int := if F = 0 then asked zs else F
theorem digFault_ok {zs : List Int} {k : Nat} {z : Int} (hz : zs.getD k 0 = z) (h0 : 0 ≤ z) (h1 : z ≤ 4294967295) : digFault zs k = none := by unfold digFault; rw [hz, if_pos ⟨h0, h1⟩]
theorem digFault_no {zs : List Int} {k : Nat} {z : Int} (hz : zs.getD k 0 = z) (h : ¬ (0 ≤ z ∧ z ≤ 4294967295)) : digFault zs k = some 3 := by unfold digFault; rw [hz, if_neg h]

set_option maxRecDepth 100000 in
set_option maxHeartbeats 800000 in
theorem l2Digests_any (a : Option Addr) (c : Nat) (zs : List Int) (w : World) (h : Reads .i64 w a zs) (hl : zs.length ≤ 1048576) :
    Calls Tryz.prog 125 #[.slice a zs.length c] w fun e w' => e = .returned (.int .i64 (asked zs)) ∧ w' = w := by
  by_cases hbig : 3 < zs.length
  · have hb : (3 : Int) < (zs.length : Int) := by omega
    have hf : asked zs = 2 := by simp [asked, hbig]
    rw [hf]
    go_enter Tryz.func125, Tryz.ntmps125
    go_wp2
    go_ret
    exact ⟨rfl, rfl⟩
  · have hb : ¬ (3 : Int) < (zs.length : Int) := by omega
    have HF : Hid (asked zs = firstBad (digFault zs) 0 (zs.length - 0)) := by simp [asked, hbig, Hid]
    generalize hfl : asked zs = F at HF ⊢
    clear hfl
    have HA := hide h
    clear h
    go_enter Tryz.func125, Tryz.ntmps125
    go_wp2
    go_loop [3] (fun i => ∃ k : Nat, k ≤ zs.length ∧ i = .int .i64 k ∧ F = firstBad (digFault zs) k (zs.length - k)) (fun i => zs.length - (intOf i).toNat)
    case atStart => exact ⟨0, Nat.zero_le _, rfl, HF.out⟩
    case round =>
      obtain ⟨k, hk, rfl, hF⟩ := hrel
      have HF := hide hF
      clear hF
      by_cases hlt : k < zs.length
      · obtain ⟨b, off, rfl, hb1, hc⟩ := HA.out (by intro e; simp [e] at hlt)
        have hc1 := hc k hlt
        generalize hz : zs.getD k 0 = z at hc1
        have HZ := hide hz
        clear hz hc
        by_cases c1 : 0 ≤ z
        · by_cases c2 : z ≤ 4294967295
          · go_wp2
            go_round
            case rel => exact ⟨k + 1, by omega, by go_num, by rw [HF.out]; exact firstBad_miss hlt (digFault_ok HZ.out c1 c2)⟩
            case measure => simp [intOf]; omega
          · go_wp2
            go_ret
            exact ⟨ret_int (by rw [HF.out]; exact (firstBad_hit hlt (digFault_no HZ.out (by omega))).symm), rfl⟩
        · go_wp2
          go_ret
          exact ⟨ret_int (by rw [HF.out]; exact (firstBad_hit hlt (digFault_no HZ.out (by omega))).symm), rfl⟩
      · go_wp2
        go_ret
        exact ⟨ret_int (by rw [HF.out]; exact (firstBad_end (by omega)).symm), rfl⟩

set_option maxRecDepth 100000 in
set_option maxHeartbeats 1600000 in
theorem askedFault_any (a : Option Addr) (c n : Nat) (D : Nat → Int) (P : Nat → List Int) (a2 : Option Addr) (c2 : Nat) (zs : List Int) (w : World) (h : RdC w a D P n) (hn : n ≤ 1048576) (hP : ∀ i, i < n → U8 (P i) ∧ (P i).length ≤ 1048576) (h2 : Reads .i64 w a2 zs) (hl : zs.length ≤ 1048576) :
    Calls Tryz.prog 87 #[.slice a n c, .slice a2 zs.length c2] w fun e w' => e = .returned (.int .i64 (both (fault D P n) zs)) ∧ Below w.heap.size w w' := by
  have HC := hide (implFault_any a c n D P w h hn hP)
  have HR := hide h2
  generalize fault D P n = F at *
  clear h hP h2
  by_cases hF : F = 0
  · subst hF
    unfold both
    rw [if_pos rfl]
    by_cases hbig : 3 < zs.length
    · have hb : (3 : Int) < (zs.length : Int) := by omega
      have hf : asked zs = 2 := by simp [asked, hbig]
      rw [hf]
      go_enter Tryz.func87, Tryz.ntmps87
      go_wp2_with fail
      refine HC.out.mono ?_
      rintro e w1 ⟨rfl, b1⟩
      have B1 := hide b1
      clear b1
      go_wp2_with fail
      go_ret
      exact ⟨rfl, B1.out⟩
    · have hb : ¬ (3 : Int) < (zs.length : Int) := by omega
      have HF : Hid (asked zs = firstBad (digFault zs) 0 (zs.length - 0)) := by simp [asked, hbig, Hid]
      generalize hfl : asked zs = F at HF ⊢
      clear hfl
      go_enter Tryz.func87, Tryz.ntmps87
      go_wp2_with fail
      refine HC.out.mono ?_
      rintro e w1 ⟨rfl, b1⟩
      have B1 := hide b1
      have R1 := hide (HR.out.below b1)
      clear b1 HC HR
      go_wp2
      go_loop [7, 18] (fun _ i => ∃ k : Nat, k ≤ zs.length ∧ i = .int .i64 k ∧ F = firstBad (digFault zs) k (zs.length - k)) (fun _ i => zs.length - (intOf i).toNat)
      case atStart => exact ⟨0, Nat.zero_le _, rfl, HF.out⟩
      case round =>
        obtain ⟨k, hk, rfl, hF⟩ := hrel
        have HF := hide hF
        clear hF
        by_cases hlt : k < zs.length
        · obtain ⟨b, off, rfl, hb1, hc⟩ := R1.out (by intro e; simp [e] at hlt)
          have hc1 := hc k hlt
          generalize hz : zs.getD k 0 = z at hc1
          have HZ := hide hz
          clear hz hc
          by_cases c1 : 0 ≤ z
          · by_cases c2 : z ≤ 4294967295
            · go_wp2
              go_round
              case rel => exact ⟨k + 1, by omega, by go_num, by rw [HF.out]; exact firstBad_miss hlt (digFault_ok HZ.out c1 c2)⟩
              case measure => simp [intOf]; omega
            · go_wp2
              go_ret
              exact ⟨ret_int (by rw [HF.out]; exact (firstBad_hit hlt (digFault_no HZ.out (by omega))).symm), B1.out⟩
          · go_wp2
            go_ret
            exact ⟨ret_int (by rw [HF.out]; exact (firstBad_hit hlt (digFault_no HZ.out (by omega))).symm), B1.out⟩
        · go_wp2
          go_ret
          exact ⟨ret_int (by rw [HF.out]; exact (firstBad_end (by omega)).symm), B1.out⟩
  · have hne : (F != 0) = true := by simpa using hF
    go_enter Tryz.func87, Tryz.ntmps87
    go_wp2_with fail
    refine HC.out.mono ?_
    rintro e w1 ⟨rfl, b1⟩
    have B1 := hide b1
    clear b1
    go_wp2_with fail
    go_ret
    exact ⟨ret_int (by unfold both; rw [if_neg hF]), B1.out⟩

end Go.Proofs.YtejipahfodhmjaaGreat

namespace Go.Proofs.YtejipahfodhmjaaGreat
open Go.RowKit Go.Maps
set_option linter.unusedVariables false

def hasD (D : Nat → Int) (n : Nat) (z : Int) : Bool := (List.range n).any fun i => D i == z
theorem hasD_true {D : Nat → Int} {n : Nat} {z : Int} (h : hasD D n z = true) : ∃ i, i < n ∧ D i = z := by
  simpa [hasD] using h
theorem hasD_false {D : Nat → Int} {n : Nat} {z : Int} (h : hasD D n z = false) : ∀ i, i < n → D i ≠ z := by
  simpa [hasD] using h
theorem first_at {D : Nat → Int} {z : Int} : ∀ {n : Nat}, (∃ i, i < n ∧ D i = z) → ∃ i, i < n ∧ D i = z ∧ ∀ j, j < i → D j ≠ z
  | 0, ⟨i, hi, _⟩ => by omega
  | n + 1, ⟨i, hi, e⟩ => by
    by_cases h : ∃ i, i < n ∧ D i = z
    · obtain ⟨j, h1, h2, h3⟩ := first_at h
      exact ⟨j, by omega, h2, h3⟩
    · have hin : i = n := by
        rcases Nat.lt_or_ge i n with h' | h'
        · exact absurd ⟨i, h', e⟩ h
        · omega
      subst hin
      exact ⟨i, by omega, e, fun j hj ej => h ⟨j, hj, ej⟩⟩

def miss (D : Nat → Int) (n : Nat) (zs : List Int) : Nat → List Int
  | 0 => []
  | k + 1 => if hasD D n (zs.getD k 0) || (miss D n zs k).contains (zs.getD k 0) then miss D n zs k else miss D n zs k ++ [zs.getD k 0]
theorem miss_length (D : Nat → Int) (n : Nat) (zs : List Int) : ∀ k, (miss D n zs k).length ≤ k
  | 0 => Nat.le_refl _
  | k + 1 => by
    have := miss_length D n zs k
    unfold miss
    split
    · omega
    · simp; omega
theorem miss_stay {D : Nat → Int} {n : Nat} {zs : List Int} {k : Nat} {z : Int} (hz : zs.getD k 0 = z) (h : hasD D n z = true ∨ (miss D n zs k).contains z = true) : miss D n zs (k + 1) = miss D n zs k := by
  simp only [miss]; rw [hz, if_pos (by simpa using h)]
theorem miss_more {D : Nat → Int} {n : Nat} {zs : List Int} {k : Nat} {z : Int} (hz : zs.getD k 0 = z) (h : hasD D n z = false) (h2 : (miss D n zs k).contains z = false) : miss D n zs (k + 1) = miss D n zs k ++ [z] := by
  simp only [miss]; rw [hz, if_neg (by rw [h, h2]; simp)]

theorem contains_upto {ms : List Int} {z : Int} (h : ∀ j, j < ms.length → ms.getD j 0 ≠ z) : ms.contains z = false := by
  simp only [List.contains_eq_mem, decide_eq_false_iff_not]
  intro hm
  obtain ⟨j, hj, e⟩ := List.mem_iff_getElem.1 hm
  exact h j hj (by simp [List.getD_eq_getElem?_getD, hj, e])
theorem contains_hit {ms : List Int} {z : Int} {j : Nat} (hj : j < ms.length) (h : ms.getD j 0 = z) : ms.contains z = true := by
  simp only [List.contains_eq_mem, decide_eq_true_eq]
  have : ms.getD j 0 = ms[j] := by simp [List.getD_eq_getElem?_getD, hj]
  rw [← h, this]
  exact List.getElem_mem hj

set_option maxRecDepth 100000 in
set_option maxHeartbeats 800000 in
theorem l2Among_any (a : Option Addr) (c : Nat) (ms : List Int) (z : Int) (w : World) (h : Reads .i64 w a ms) (hl : ms.length ≤ 1048576) :
    Calls Tryz.prog 89 #[.slice a ms.length c, .int .i64 z] w fun e w' => e = .returned (.bool (ms.contains z)) ∧ w' = w := by
  have HA := hide h
  clear h
  generalize hr : ms.contains z = r
  have HR := hide hr
  clear hr
  go_enter Tryz.func89, Tryz.ntmps89
  go_wp2
  go_loop [5] (fun i => ∃ k : Nat, k ≤ ms.length ∧ i = .int .i64 k ∧ ∀ j, j < k → ms.getD j 0 ≠ z) (fun i => ms.length - (intOf i).toNat)
  case atStart => exact ⟨0, Nat.zero_le _, rfl, fun j hj => absurd hj (by omega)⟩
  case round =>
    obtain ⟨k, hk, rfl, hF⟩ := hrel
    have HF := hide hF
    clear hF
    by_cases hlt : k < ms.length
    · obtain ⟨b, off, rfl, hb1, hc⟩ := HA.out (by intro e; simp [e] at hlt)
      have hc1 := hc k hlt
      generalize hy : ms.getD k 0 = y at hc1
      have HY := hide hy
      clear hy hc
      by_cases e : y = z
      · have e' : (y == z) = true := by simpa using e
        have HE := hide e
        clear e
        go_wp2
        go_ret
        exact ⟨ret_bool (by rw [← HR.out]; exact (contains_hit hlt (HY.out.trans HE.out)).symm), rfl⟩
      · have e' : (y == z) = false := by simpa using e
        go_wp2
        go_round
        case rel => exact ⟨k + 1, by omega, by go_num, fun j hj => by
          by_cases ej : j = k
          · subst ej; rw [HY.out]; exact e
          · exact HF.out j (by omega)⟩
        case measure => simp [intOf]; omega
    · go_wp2
      go_ret
      exact ⟨ret_bool (by rw [← HR.out]; exact (contains_upto (fun j hj => HF.out j (by omega))).symm), rfl⟩

set_option maxRecDepth 100000 in
set_option maxHeartbeats 800000 in
theorem slIndex_any (a : Option Addr) (c : Nat) (ms : List Int) (z : Int) (w : World) (h : Reads .i64 w a ms) (hl : ms.length ≤ 1048576) :
    Calls Tryz.prog 103 #[.slice a ms.length c, .int .i64 z] w fun e w' => (∃ i : Int, e = .returned (.int .i64 i) ∧ decide (0 ≤ i) = ms.contains z ∧ -1 ≤ i ∧ i ≤ 1048576) ∧ w' = w := by
  have HA := hide h
  clear h
  generalize hr : ms.contains z = r
  have HR := hide hr
  clear hr
  go_enter Tryz.func103, Tryz.ntmps103
  go_wp2
  go_loop [5, 8] (fun _ i => ∃ k : Nat, k ≤ ms.length ∧ i = .int .i64 k ∧ ∀ j, j < k → ms.getD j 0 ≠ z) (fun _ i => ms.length - (intOf i).toNat)
  case atStart => exact ⟨0, Nat.zero_le _, rfl, fun j hj => absurd hj (by omega)⟩
  case round =>
    obtain ⟨k, hk, rfl, hF⟩ := hrel
    have HF := hide hF
    clear hF
    by_cases hlt : k < ms.length
    · obtain ⟨b, off, rfl, hb1, hc⟩ := HA.out (by intro e; simp [e] at hlt)
      have hc1 := hc k hlt
      generalize hy : ms.getD k 0 = y at hc1
      have HY := hide hy
      clear hy hc
      by_cases e : y = z
      · have e' : (z == y) = true := by simpa using e.symm
        have HE := hide e
        clear e
        go_wp2
        go_ret
        exact ⟨⟨_, rfl, by rw [← HR.out, contains_hit hlt (HY.out.trans HE.out)]; simp, by omega, by omega⟩, rfl⟩
      · have e' : (z == y) = false := by simpa using fun h => e h.symm
        go_wp2
        go_round
        case rel => exact ⟨k + 1, by omega, by go_num, fun j hj => by
          by_cases ej : j = k
          · subst ej; rw [HY.out]; exact e
          · exact HF.out j (by omega)⟩
        case measure => simp [intOf]; omega
    · go_wp2
      go_ret
      exact ⟨⟨_, rfl, by rw [← HR.out, contains_upto (fun j hj => HF.out j (by omega))]; simp, by omega, by omega⟩, rfl⟩

set_option maxRecDepth 100000 in
set_option maxHeartbeats 800000 in
theorem slContains_any (a : Option Addr) (c : Nat) (ms : List Int) (z : Int) (w : World) (h : Reads .i64 w a ms) (hl : ms.length ≤ 1048576) :
    Calls Tryz.prog 57 #[.slice a ms.length c, .int .i64 z] w fun e w' => e = .returned (.bool (ms.contains z)) ∧ w' = w := by
  have HC := hide (slIndex_any a c ms z w h hl)
  clear h
  generalize ms.contains z = r at *
  go_enter Tryz.func57, Tryz.ntmps57
  go_wp2_with fail
  refine HC.out.mono ?_
  rintro e w1 ⟨⟨i, rfl, hi, h1, h2⟩, rfl⟩
  subst hi
  go_wp2_with fail
  go_ret
  exact ⟨rfl, rfl⟩

set_option maxRecDepth 100000 in
set_option maxHeartbeats 1600000 in
theorem l2Missing_any (a : Option Addr) (c n : Nat) (D : Nat → Int) (P : Nat → List Int) (a2 : Option Addr) (c2 : Nat) (zs : List Int) (w : World) (h : RdC w a D P n) (hn : n ≤ 1048576) (h2 : Reads .i64 w a2 zs) (hl : zs.length ≤ 3) :
    Calls Tryz.prog 38 #[.slice a n c, .slice a2 zs.length c2] w fun e w' => ∃ v, e = .returned v ∧ w'.ownsRow w.heap.size 2 1 v (miss D n zs zs.length).length ((miss D n zs zs.length).map (Value.int .i64)) ∧ Below w.heap.size w w' := by
  obtain ⟨i1, ki, kz0, kz1, kz2⟩ := info_parts Tryz.infoI64
  have HA := hide h
  have HR := hide h2
  clear h h2
  go_enter Tryz.func38, Tryz.ntmps38
  go_wp2
  go_loopw [5, 6] (fun v i wr => ∃ j : Nat, j ≤ zs.length ∧ i = .int .i64 j ∧ wr.ownsRow w.heap.size 2 1 v (miss D n zs j).length ((miss D n zs j).map (Value.int .i64)) ∧ Below w.heap.size w wr) (fun _ i _ => zs.length - (intOf i).toNat)
  case atStart => exact ⟨0, Nat.zero_le _, rfl, World.ownsRow_made w #[] 0 (Nat.le_refl _) (Nat.zero_le _) rfl, below_alloc _ _⟩
  case round =>
    obtain ⟨j, hj, rfl, hown, hbel⟩ := hrel
    by_cases hlt : j < zs.length
    · obtain ⟨b, off, rfl, hb1, hc⟩ := HR.out (by intro e; simp [e] at hlt)
      have hc1 := (hbel.cell (p := ⟨b, off + j, none⟩) hb1).trans (hc j hlt)
      have hml := miss_length D n zs j
      obtain ⟨av, cv, rfl⟩ := ownsRow_shape hown
      have HS1 := hide (fun z hz => miss_stay (D := D) (n := n) (zs := zs) (k := j) (z := z) hz)
      have HS2 := hide (fun z hz => miss_more (D := D) (n := n) (zs := zs) (k := j) (z := z) hz)
      generalize hms : miss D n zs j = ms at *
      clear hms
      generalize hz : zs.getD j 0 = z at hc1
      have HZ := hide hz
      have HO := hide hown
      have HW := hide hbel
      have hsz := hbel.size
      have RM := hide (ownsRow_own hown rfl).reads
      have HAt := hide (HA.out.below hbel)
      have hm1 : ms.length + 1 ≤ maxLen := by unfold maxLen; omega
      have hm2 : (ms.length + 1) * 8 ≤ 140737488355328 := by omega
      clear hc hz hown hbel
      cases hh : hasD D n z with
      | true =>
        obtain ⟨i, hi, hd, hf⟩ := first_at (hasD_true hh)
        have HST := hide (HS1.out z HZ.out (.inl hh))
        have hi0 : ¬ (i : Int) < 0 := by omega
        have HAy := hide (l2At_yes a c n i z D P wr HAt.out hn hi hd hf)
        clear hh hd hf
        go_wp2_with (first | (go_at_call 88; refine HAy.out.mono ?_; rintro e w1 ⟨rfl, rfl⟩) | fail)
        go_roundw
        case rel => exact ⟨j + 1, by omega, by go_num, by rw [HST.out]; exact HO.out, HW.out⟩
        case measure => simp [intOf]; omega
      | false =>
        have HAn := hide (l2At_no a c n z D P wr HAt.out hn (hasD_false hh))
        have HAm := hide (l2Among_any av cv ms z wr RM.out (by omega))
        cases hcn : ms.contains z with
        | true =>
          have HST := hide (HS1.out z HZ.out (.inr hcn))
          rw [hcn] at HAm
          clear hh hcn
          go_wp2_with (first | (go_at_call 88; refine HAn.out.mono ?_; rintro e w1 ⟨rfl, rfl⟩) | (go_at_call 89; refine HAm.out.mono ?_; rintro e w1 ⟨rfl, rfl⟩) | fail)
          go_roundw
          case rel => exact ⟨j + 1, by omega, by go_num, by rw [HST.out]; exact HO.out, HW.out⟩
          case measure => simp [intOf]; omega
        | false =>
          have HST := hide (HS2.out z HZ.out hh hcn)
          rw [hcn] at HAm
          clear hh hcn
          go_wp2_with (first | (go_at_call 88; refine HAn.out.mono ?_; rintro e w1 ⟨rfl, rfl⟩) | (go_at_call 89; refine HAm.out.mono ?_; rintro e w1 ⟨rfl, rfl⟩) | (at_builtin; refine wpList_append_one rfl (.tmp 30) (.tmp 35) 31 rfl w.heap.size 2 i1 (.int .i64 0) 1 8 Tryz.underlying31 ki kz0 kz1 kz2 rfl (by decide) _ _ _ rfl HO.out rfl rfl (by intro u hu; simp at hu; subst hu; rfl) hm1 hm2 hsz ?_; intro v' w2 hown2 hkept; have O2 := hide hown2; have K2 := hide hkept; clear hown2 hkept) | fail)
          go_roundw
          case rel => exact ⟨j + 1, by omega, by go_num, by rw [HST.out]; simpa using O2.out, HW.out.trans (K2.out.below hsz (fun k hk hS => by have := (HO.out.lt _ hS).1; omega))⟩
          case measure => simp [intOf]; omega
    · have hje : j = zs.length := by omega
      subst hje
      go_wp2
      go_ret
      exact ⟨_, rfl, hown, hbel⟩

theorem below_after {B : Nat} {w w' w'' : World} (h : Below B w w') (k : Below w'.heap.size w' w'') (hB : B ≤ w'.heap.size := by omega) : Below B w w'' := h.trans (k.mono hB)

def ResI (q : Int) (zs : List Int) (w : World) (e : Ending) (w' : World) : Prop :=
  ∃ a' c', e = .returned (.agg #[.int .i64 q, .slice a' zs.length c']) ∧ G1 w.heap.size w'.heap.size w' (.slice a' zs.length c') zs ∧ Below w.heap.size w w'
theorem G1.nil (B T : Nat) (w : World) : G1 B T w (.slice none 0 0) [] := ⟨World.ownsRow_nil _ _ _ _, fun b hb => by simp [Value.ownBlock] at hb⟩
theorem ResI.no {q : Int} {w w' : World} (h : Below w.heap.size w w') : ResI q [] w (.returned (.agg #[.int .i64 q, .slice none 0 0])) w' := ⟨none, 0, rfl, G1.nil _ _ _, h⟩

theorem both_zero {F : Int} {zs : List Int} (h : both F zs = 0) : F = 0 ∧ asked zs = 0 := by
  unfold both at h
  split at h
  · rename_i e; exact ⟨e, h⟩
  · rename_i e; exact absurd h e


set_option maxRecDepth 100000 in
set_option maxHeartbeats 3200000 in
theorem implMissingOf_ok (a : Option Addr) (c n : Nat) (D : Nat → Int) (P : Nat → List Int) (a2 : Option Addr) (c2 : Nat) (zs : List Int) (w : World) (h : RdC w a D P n) (hn : n ≤ 1048576) (hP : ∀ i, i < n → U8 (P i) ∧ (P i).length ≤ 1048576) (h2 : Reads .i64 w a2 zs) (hl : zs.length ≤ 1048576) (hF : both (fault D P n) zs = 0) :
    Calls Tryz.prog 37 #[.slice a n c, .slice a2 zs.length c2] w (ResI 0 (miss D n zs zs.length) w) := by
  obtain ⟨i1, ki, kz0, kz1, kz2⟩ := info_parts Tryz.infoI64
  have hfl := askedFault_any a c n D P a2 c2 zs (w.alloc (.cells #[.int .i64 0, .slice none 0 0] 33)) (h.below (below_alloc _ _)) hn hP (h2.below (below_alloc _ _)) hl
  rw [hF] at hfl
  obtain ⟨hl3, hrg⟩ := asked_zero (both_zero hF).2
  have HRt := hide (fault_zero (both_zero hF).1)
  have HRg := hide hrg
  have HC := hide hfl
  have HA := hide h
  have HR := hide h2
  clear h hP hF h2 hfl hrg
  go_enter Tryz.func37, Tryz.ntmps37
  go_wp2_with fail
  refine HC.out.mono ?_
  rintro e w1 ⟨rfl, b1⟩
  have X1 := hide ((Box.new w (.int .i64 0) (.slice none 0 0) 33).below b1)
  have hs1 : w.heap.size < w1.heap.size := by have := b1.size; simp at this; omega
  have B1 := hide (below_next (below_alloc w (.cells #[.int .i64 0, .slice none 0 0] 33)) b1)
  clear b1 HC
  go_wp2_with fail
  refine (mapChunks_any a c n D P w1 (HA.out.below B1.out) HRt.out).mono ?_
  rintro e w2 ⟨bm, rfl, hbm, hH2, b2⟩
  have H2 := hide hH2
  have X2 := hide (X1.out.below b2)
  have hs2 : w.heap.size < w2.heap.size := by have := b2.size; omega
  have B2 := hide (below_next B1.out b2)
  have R2 := hide (HR.out.below B2.out)
  clear b2 hH2 X1 B1
  go_wp2
  go_loopw [7, 9, 10, 11, 23] (fun v _ _ _ i wr => ∃ j : Nat, j ≤ zs.length ∧ i = .int .i64 j ∧ wr.ownsRow w2.heap.size 2 1 v (miss D n zs j).length ((miss D n zs j).map (Value.int .i64)) ∧ Below w2.heap.size w2 wr) (fun _ _ _ _ i _ => zs.length - (intOf i).toNat)
  case atStart => exact ⟨0, Nat.zero_le _, rfl, World.ownsRow_nil _ _ _ _, Below.refl _ _⟩
  case round =>
    obtain ⟨j, hj, rfl, hown, hbel⟩ := hrel
    obtain ⟨av, cv, rfl⟩ := ownsRow_shape hown
    by_cases hlt : j < zs.length
    · obtain ⟨b, off, rfl, hb1, hc⟩ := R2.out (by intro e; simp [e] at hlt)
      have hc1 := (hbel.cell (p := ⟨b, off + j, none⟩) hb1).trans (hc j hlt)
      have hml := miss_length D n zs j
      have hz01 := HRg.out j hlt
      have HS1 := hide (fun z hz => miss_stay (D := D) (n := n) (zs := zs) (k := j) (z := z) hz)
      have HS2 := hide (fun z hz => miss_more (D := D) (n := n) (zs := zs) (k := j) (z := z) hz)
      generalize hms : miss D n zs j = ms at *
      clear hms
      generalize hz : zs.getD j 0 = z at hc1 hz01
      have hwf := i64_wf hz01.1 hz01.2
      have HZ := hide hz
      have HO := hide hown
      have HW := hide hbel
      have hsz := hbel.size
      have HHw := hide (H2.out.below hbel)
      have hm1 : ms.length + 1 ≤ maxLen := by unfold maxLen; omega
      have hm2 : (ms.length + 1) * 8 ≤ 140737488355328 := by omega
      clear hc hz hown hbel
      cases hh : hasD D n z with
      | true =>
        obtain ⟨i, hi, hd⟩ := hasD_true hh
        obtain ⟨a3, c3, hrun, -⟩ := HHw.out.yes (lst_mem.2 ⟨i, hi, by rw [hd]⟩ : (z, P i) ∈ lst D P n) hwf 67 Tryz.underlying67
        have HL := hide (hrun true)
        have HST := hide (HS1.out z HZ.out (.inl hh))
        generalize (P i).length = pl at *
        clear hh hd hrun
        go_wp2_with (first | (at_lookup; refine wpList_look rfl _ _ 67 true rfl _ _ _ rfl rfl HL.out ?_; simp only [chv, if_true]) | fail)
        go_roundw
        case rel => exact ⟨j + 1, by omega, by go_num, by rw [HST.out]; exact ownsRow_below HO.out (below_alloc _ _), below_after HW.out (below_alloc _ _)⟩
        case measure => simp [intOf]; omega
      | false =>
        have HL := hide (HHw.out.no (by intro hm; obtain ⟨i, hi, e⟩ := lst_key.1 hm; exact hasD_false hh i hi e) hwf 67 Tryz.underlying67)
        have HO1 := hide (ownsRow_below HO.out (below_alloc wr (.cells #[.int .i64 0, .slice none 0 0] 108)))
        have HAm := hide (slContains_any av cv ms z _ (ownsRow_own HO1.out rfl).reads (by omega))
        have hsz1 : w2.heap.size ≤ (wr.alloc (.cells #[.int .i64 0, .slice none 0 0] 108)).heap.size := by simp; omega
        cases hcn : ms.contains z with
        | true =>
          have HST := hide (HS1.out z HZ.out (.inr hcn))
          rw [hcn] at HAm
          clear hh hcn
          go_wp2_with (first | (at_lookup; refine wpList_look rfl _ _ 67 true rfl _ _ _ rfl rfl HL.out ?_) | (go_at_call 57; refine HAm.out.mono ?_; rintro e w1 ⟨rfl, rfl⟩) | fail)
          go_roundw
          case rel => exact ⟨j + 1, by omega, by go_num, by rw [HST.out]; exact HO1.out, below_after HW.out (below_alloc _ _)⟩
          case measure => simp [intOf]; omega
        | false =>
          have HST := hide (HS2.out z HZ.out hh hcn)
          rw [hcn] at HAm
          clear hh hcn
          go_wp2_with (first | (at_lookup; refine wpList_look rfl _ _ 67 true rfl _ _ _ rfl rfl HL.out ?_) | (go_at_call 57; refine HAm.out.mono ?_; rintro e w1 ⟨rfl, rfl⟩) | (at_builtin; refine wpList_append_at rfl (.tmp 41) (.tmp 43) 31 rfl w2.heap.size 2 i1 (.int .i64 0) 1 8 Tryz.underlying31 ki kz0 kz1 kz2 rfl (by decide) _ _ _ rfl HO1.out (wr.heap.size + 1) (by simp) rfl rfl (by intro u hu; simp at hu; subst hu; rfl) hm1 hm2 hsz1 ?_; intro v' w3 hown2 hkept; have O2 := hide hown2; have K2 := hide hkept; clear hown2 hkept) | fail)
          go_roundw
          case rel => exact ⟨j + 1, by omega, by go_num, by rw [HST.out]; simpa using O2.out, (below_after HW.out (below_alloc _ _)).trans (K2.out.below hsz1 (fun k hk hS => by have := (HO1.out.lt _ hS).1; omega))⟩
          case measure => simp [intOf]; omega
    · have hje : j = zs.length := by omega
      subst hje
      generalize miss D n zs zs.length = ms at *
      obtain ⟨⟨q0, q1⟩, q2, q3⟩ := X2.out.below hbel
      have HO := hide hown
      have HW := hide (below_next B2.out hbel)
      clear hown hbel
      go_wp2
      refine bodyPost_ret (v := .agg #[.int .i64 0, .slice av ms.length cv]) (by simp [results, Tryz.results37, go_sem, q0, q1]) rfl ⟨_, _, rfl, ?_, (HW.out.setCell (Nat.le_refl _) _).setCell (Nat.le_refl _) _⟩
      exact G1.mk (ownsRow_mono (ownsRow_kept (S := fun b => b = w.heap.size) HO.out (Kept.two _ _ _ _ _ _) (fun b hb e => by have := (HO.out.lt b hb).1; omega)) (by omega)) rfl

end Go.Proofs.YtejipahfodhmjaaGreat

namespace Go.Proofs.YtejipahfodhmjaaGreat
open Go.RowKit Go.Maps
set_option linter.unusedVariables false

theorem wpList_append_ints {P : Program} {wr : World} {ops : Array Oper} {rest : List Oper} {o : Oper} {a : Act} {Q : Exit → Act → World → Prop} (hgd : o.guard = none) (s x : Operand) (t : TypeId)
    (ho : o.op = .call { callee := .builtin .append, args := #[s, x], argTypes := #[t, t] })
    (base : Nat) (e : TypeId) (i : TypeInfo) (k : IntKind) (bytes : Nat) (ht : P.underlying t = some (.slice e)) (hi : P.info? e = some i) (hz : i.zero = some (.int k 0))
    (hsize : i.size = 1) (hby : i.bytes = bytes) (v : Value) (n : Nat) (ys : List Int) (hs : a.eval s = v) (hown : wr.ownsRow base e 1 v n (ys.map (Value.int k)))
    (b off m cap : Nat) (zs : List Int) (hx : a.eval x = .slice (some ⟨b, off, none⟩) m cap) (hm : m = zs.length) (hc : ∀ i, i < zs.length → wr.cell? ⟨b, off + i, none⟩ = some (.int k (zs.getD i 0)))
    (h63 : n + m ≤ maxLen) (hbytes : (n + m) * bytes ≤ 140737488355328) (hbase : base ≤ wr.heap.size)
    (h : ∀ v' w', w'.ownsRow base e 1 v' (n + m) ((ys ++ zs).map (Value.int k)) → Kept (fun b => v.ownBlock = some b) wr w' → wpList P ops Q rest (a.put o.dst v') w') :
    wpList P ops Q (o :: rest) a wr := by
  refine wpList_append_own _ hgd s x t ho base e i (.int k 0) 1 bytes ht hi hz hsize hby rfl (by decide) v n _ hs hown ⟨b, off, none⟩ m cap (zs.map (Value.int k)) hx (by simp [hm]) (fun j u hj => reads_news hc j u hj) (ints_one _ _) h63 hbytes hbase ?_
  intro v' w' ho' hg _
  refine h v' w' (by rw [List.map_append]; exact ho') ⟨hg.os, hg.tape, hg.output, hg.size, fun q hq hn => hg.block q hq (fun e => hn e.symm)⟩

def joinTo (js : Nat → List Int) (k : Nat) : List Int := (List.range k).flatMap js
end Go.Proofs.YtejipahfodhmjaaGreat

namespace Go.Proofs.YtejipahfodhmjaaGreat
set_option linter.unusedVariables false

def lacF (ls : List (List En)) (D : Nat → Int) (P : Nat → List Int) (n : Nat) : Int := if layersP ls = 0 then fault D P n else layersP ls
theorem lac_zero {ls : List (List En)} {D : Nat → Int} {P : Nat → List Int} {n : Nat} : lacF ls D P n = 0 ↔ layersP ls = 0 ∧ fault D P n = 0 := by
  unfold lacF
  by_cases h : layersP ls = 0
  · simp [h]
  · rw [if_neg h]; simp [h]

def putZ (o : List Int) (d : Int) : List Int := if o.contains d then o else o ++ [d]
theorem putZ_yes {o : List Int} {d : Int} (h : o.contains d = true) : putZ o d = o := by unfold putZ; rw [if_pos h]
theorem putZ_no {o : List Int} {d : Int} (h : o.contains d = false) : putZ o d = o ++ [d] := by unfold putZ; rw [if_neg (by rw [h]; decide)]
theorem putZ_len (o : List Int) (d : Int) : (putZ o d).length ≤ o.length + 1 := by unfold putZ; split <;> simp
theorem putZ_mem {o : List Int} {d x : Int} : x ∈ putZ o d ↔ x ∈ o ∨ x = d := by
  unfold putZ
  split
  · rename_i h
    have : d ∈ o := by simpa using h
    constructor
    · exact .inl
    · rintro (h | rfl)
      · exact h
      · exact this
  · simp
def putsZ (o ms : List Int) : List Int := ms.foldl putZ o
theorem putsZ_snoc (o ms : List Int) (d : Int) : putsZ o (ms ++ [d]) = putZ (putsZ o ms) d := by simp [putsZ, List.foldl_append]
theorem putsZ_len (o : List Int) : ∀ ms : List Int, (putsZ o ms).length ≤ o.length + ms.length := by
  intro ms
  induction ms generalizing o with
  | nil => simp [putsZ]
  | cons d r ih =>
    have h1 := ih (putZ o d)
    have h2 := putZ_len o d
    have : putsZ o (d :: r) = putsZ (putZ o d) r := rfl
    rw [this, List.length_cons]
    omega
theorem putsZ_mem {ms : List Int} : ∀ {o : List Int} {x : Int}, x ∈ putsZ o ms ↔ x ∈ o ∨ x ∈ ms := by
  induction ms with
  | nil => intro o x; simp [putsZ]
  | cons d r ih =>
    intro o x
    have : putsZ o (d :: r) = putsZ (putZ o d) r := rfl
    rw [this, ih, putZ_mem, List.mem_cons]
    constructor
    · rintro ((h | h) | h)
      · exact .inl h
      · exact .inr (.inl h)
      · exact .inr (.inr h)
    · rintro (h | h | h)
      · exact .inl (.inl h)
      · exact .inl (.inr h)
      · exact .inr h
theorem putsZ_take {o ms : List Int} {k : Nat} (h : k < ms.length) : putsZ o (ms.take (k + 1)) = putZ (putsZ o (ms.take k)) (ms.getD k 0) := by
  have hg : ms[k]? = some (ms.getD k 0) := by rw [List.getD_eq_getElem?_getD, List.getElem?_eq_getElem h]; rfl
  rw [List.take_add_one, hg]
  exact putsZ_snoc _ _ _
def missE (D : Nat → Int) (n : Nat) (e : En) : List Int := miss D n e.chunks e.chunks.length
def awayE (D : Nat → Int) (n : Nat) (es : List En) : List Int := es.foldl (fun o e => putsZ o (missE D n e)) []
theorem awayE_snoc (D : Nat → Int) (n : Nat) (es : List En) (e : En) : awayE D n (es ++ [e]) = putsZ (awayE D n es) (missE D n e) := by simp [awayE, List.foldl_append]
theorem awayE_take {D : Nat → Int} {n : Nat} {es : List En} {k : Nat} {e : En} (h : es[k]? = some e) : awayE D n (es.take (k + 1)) = putsZ (awayE D n (es.take k)) (missE D n e) := by
  rw [List.take_add_one, h]
  exact awayE_snoc _ _ _ _
theorem missE_len (D : Nat → Int) (n : Nat) (e : En) : (missE D n e).length ≤ e.chunks.length := miss_length _ _ _ _
theorem awayE_len {D : Nat → Int} {n : Nat} {es : List En} (h : ∀ e ∈ es, e.chunks.length ≤ 3) : ∀ k, k ≤ es.length → (awayE D n (es.take k)).length ≤ 3 * k
  | 0, _ => by simp [awayE]
  | k + 1, hk => by
    have ih := awayE_len (D := D) (n := n) h k (by omega)
    have he : es[k]? = some (es[k]'(by omega)) := List.getElem?_eq_getElem (by omega)
    rw [awayE_take he]
    have h1 := putsZ_len (awayE D n (es.take k)) (missE D n (es[k]'(by omega)))
    have h2 := missE_len D n (es[k]'(by omega))
    have h3 := h _ (List.mem_of_getElem? he)
    omega
theorem awayE_chunks {D : Nat → Int} {n : Nat} {es fs : List En} (h : es.map En.chunks = fs.map En.chunks) : awayE D n es = awayE D n fs := by
  have : ∀ gs : List En, awayE D n gs = (gs.map En.chunks).foldl (fun o zs => putsZ o (miss D n zs zs.length)) [] := fun gs => by
    unfold awayE missE
    rw [List.foldl_map]
  rw [this, this, h]
theorem awayE_mem {D : Nat → Int} {n : Nat} {x : Int} (es : List En) : x ∈ awayE D n es ↔ ∃ e ∈ es, x ∈ missE D n e := by
  induction es using snocInd with
  | nil => simp [awayE]
  | snoc l e ih =>
    rw [awayE_snoc, putsZ_mem, ih]
    constructor
    · rintro (⟨a, ha, hx⟩ | h)
      · exact ⟨a, List.mem_append_left _ ha, hx⟩
      · exact ⟨e, by simp, h⟩
    · rintro ⟨a, ha, hx⟩
      rcases List.mem_append.1 ha with ha | ha
      · exact .inl ⟨a, ha, hx⟩
      · have : a = e := by simpa using ha
        subst this
        exact .inr hx
theorem awayE_nil {D : Nat → Int} {n : Nat} {es : List En} : awayE D n es = [] ↔ ∀ e ∈ es, missE D n e = [] := by
  constructor
  · intro h e he
    cases hm : missE D n e with
    | nil => rfl
    | cons x r =>
      have : x ∈ awayE D n es := (awayE_mem es).2 ⟨e, he, by rw [hm]; simp⟩
      rw [h] at this
      cases this
  · intro h
    cases ha : awayE D n es with
    | nil => rfl
    | cons x r =>
      obtain ⟨e, he, hx⟩ := (awayE_mem (x := x) es).1 (by rw [ha]; simp)
      rw [h e he] at hx
      cases hx

theorem asT_chunksL (e : En) : (asT e).chunks = e.chunks := by unfold asT; split <;> rfl
theorem map_asT_chunks (rs : List En) : (rs.map asT).map En.chunks = rs.map En.chunks := by
  rw [List.map_map]
  exact List.map_congr_left fun e _ => asT_chunksL e

structure NmS (ls : List (List En)) (k j : Nat) (ns : List Bs) : Prop where
  rise : RiseS ns
  path : ∀ x ∈ ns, faultP x = 0 ∧ x.length ≤ 1048576
  says : ∀ x, x ∈ ns ↔ (seenL ls x).isSome = true ∧ ((∃ es ∈ ls.take k, ∃ e ∈ es, e.path = x) ∨ ∃ es, ls[k]? = some es ∧ ∃ e ∈ es.take j, e.path = x)
theorem NmS.start (ls : List (List En)) : NmS ls 0 0 [] := ⟨List.Pairwise.nil, by simp, by simp⟩
theorem NmS.next {ls : List (List En)} {k : Nat} {es : List En} {ns : List Bs} (h : NmS ls k es.length ns) (he : ls[k]? = some es) : NmS ls (k + 1) 0 ns := by
  refine ⟨h.rise, h.path, fun x => ?_⟩
  have ht : ls.take (k + 1) = ls.take k ++ [es] := by rw [List.take_add_one, he]; rfl
  rw [h.says, ht]
  refine and_congr_right fun _ => ?_
  constructor
  · rintro (⟨fs, hf, e, h1, h2⟩ | ⟨fs, hf, e, h1, h2⟩)
    · exact .inl ⟨fs, List.mem_append_left _ hf, e, h1, h2⟩
    · rw [he] at hf
      cases hf
      exact .inl ⟨es, by simp, e, by simpa using h1, h2⟩
  · rintro (⟨fs, hf, e, h1, h2⟩ | ⟨fs, hf, e, h1, h2⟩)
    · rcases List.mem_append.1 hf with hf | hf
      · exact .inl ⟨fs, hf, e, h1, h2⟩
      · have : fs = es := by simpa using hf
        subst this
        exact .inr ⟨fs, he, e, by simpa using h1, h2⟩
    · simp at h1
theorem NmS.step {ls : List (List En)} {k j : Nat} {es : List En} {e : En} (he : ls[k]? = some es) (hj : es[j]? = some e) (x : Bs) : (∃ fs, ls[k]? = some fs ∧ ∃ f ∈ fs.take (j + 1), f.path = x) ↔ (∃ fs, ls[k]? = some fs ∧ ∃ f ∈ fs.take j, f.path = x) ∨ x = e.path := by
  constructor
  · rintro ⟨fs, hf, f, h1, h2⟩
    rw [he] at hf
    cases hf
    rw [List.take_add_one, hj] at h1
    rcases List.mem_append.1 h1 with h1 | h1
    · exact .inl ⟨es, he, f, h1, h2⟩
    · have : f = e := by simpa using h1
      subst this
      exact .inr h2.symm
  · rintro (⟨fs, hf, f, h1, h2⟩ | rfl)
    · rw [he] at hf
      cases hf
      exact ⟨es, he, f, by rw [List.take_add_one]; exact List.mem_append_left _ h1, h2⟩
    · exact ⟨es, he, e, by rw [List.take_add_one, hj]; simp, rfl⟩
theorem NmS.skip {ls : List (List En)} {k j : Nat} {es : List En} {e : En} {ns : List Bs} (h : NmS ls k j ns) (he : ls[k]? = some es) (hj : es[j]? = some e) (hs : seenL ls e.path = none ∨ e.path ∈ ns) : NmS ls k (j + 1) ns := by
  refine ⟨h.rise, h.path, fun x => ?_⟩
  rw [NmS.step he hj, h.says]
  constructor
  · rintro ⟨h1, h2 | h2⟩
    · exact ⟨h1, .inl h2⟩
    · exact ⟨h1, .inr (.inl h2)⟩
  · rintro ⟨h1, h2 | h2 | h2⟩
    · exact ⟨h1, .inl h2⟩
    · exact ⟨h1, .inr h2⟩
    · subst h2
      rcases hs with hs | hs
      · rw [hs] at h1; cases h1
      · exact (h.says _).1 hs
theorem NmS.put {ls : List (List En)} {k j q : Nat} {es : List En} {e : En} {ns : List Bs} (h : NmS ls k j ns) (he : ls[k]? = some es) (hj : es[j]? = some e) (hs : seenL ls e.path = some q) (hn : e.path ∉ ns) (hp : faultP e.path = 0) (hl : e.path.length ≤ 1048576) : NmS ls k (j + 1) (putS ns e.path) := by
  refine ⟨riseS_put h.rise hn, fun x hx => ?_, fun x => ?_⟩
  · rcases mem_putS.1 hx with rfl | hx
    · exact ⟨hp, hl⟩
    · exact h.path x hx
  · rw [mem_putS, NmS.step he hj, h.says]
    constructor
    · rintro (rfl | ⟨h1, h2 | h2⟩)
      · exact ⟨by rw [hs]; rfl, .inr (.inr rfl)⟩
      · exact ⟨h1, .inl h2⟩
      · exact ⟨h1, .inr (.inl h2)⟩
    · rintro ⟨h1, h2 | h2 | h2⟩
      · exact .inr ⟨h1, .inl h2⟩
      · exact .inr ⟨h1, .inr h2⟩
      · exact .inl h2
theorem rise_paths {es : List En} (h : Rise es) : RiseS (es.map En.path) := by
  unfold RiseS
  rw [List.pairwise_map]
  exact h
theorem NmS.all {ls : List (List En)} {ns : List Bs} (h : NmS ls ls.length 0 ns) (hR : ∀ es ∈ ls, Right es) (h4 : ls.length ≤ 4) : ns = (allE ls).map En.path := by
  have hF := rights_fit hR
  have hA := all_fit hF
  refine riseS_ext h.rise (rise_paths hA.fit.rise) fun x => ?_
  constructor
  · intro hx
    obtain ⟨h1, h2⟩ := (h.says x).1 hx
    have hp := (h.path x hx).1
    obtain ⟨k, hk⟩ := Option.isSome_iff_exists.1 h1
    have hs := hk
    unfold seenL at hs
    obtain ⟨-, e, he, -⟩ := seen_some hs
    have hf : findE (allE ls) x = some (asT e) := by
      rw [all_find hF h4 hp]
      simp [sawE, hk, he]
    obtain ⟨hm, hpx⟩ := find_mem hf
    exact List.mem_map.2 ⟨_, hm, hpx⟩
  · intro hx
    obtain ⟨e, he, rfl⟩ := List.mem_map.1 hx
    have hp := hA.fit.path he
    have hf := rise_find hA.fit.rise he
    rw [all_find hF h4 hp] at hf
    unfold sawE at hf
    cases hk : seenL ls e.path with
    | none => rw [hk] at hf; cases hf
    | some k =>
      rw [hk] at hf
      cases hs : seeL ls k e.path with
      | none => simp [hs] at hf
      | some f =>
        obtain ⟨es, h1, h2, h3⟩ := seeL_mem hs
        refine (h.says _).2 ⟨by rw [hk]; rfl, .inl ⟨es, by rw [List.take_length]; exact h1, f, h2, h3⟩⟩

def partD (D : Nat → Int) (P : Nat → List Int) : Nat → Int → Option (List Int)
  | 0, _ => none
  | n + 1, z => if D n = z then some (P n) else partD D P n z
theorem partD_none {D : Nat → Int} {P : Nat → List Int} {z : Int} : ∀ {n : Nat}, partD D P n z = none ↔ ∀ i, i < n → D i ≠ z
  | 0 => by simp [partD]
  | n + 1 => by
    unfold partD
    by_cases h : D n = z
    · rw [if_pos h]
      constructor
      · intro h2; cases h2
      · intro h2; exact absurd h (h2 n (by omega))
    · rw [if_neg h, partD_none]
      constructor
      · intro h2 i hi
        by_cases e : i = n
        · subst e; exact h
        · exact h2 i (by omega)
      · intro h2 i hi; exact h2 i (by omega)
theorem partD_some {D : Nat → Int} {P : Nat → List Int} {z : Int} {x : List Int} : ∀ {n : Nat}, partD D P n z = some x → ∃ i, i < n ∧ D i = z ∧ P i = x
  | 0, h => by cases h
  | n + 1, h => by
    unfold partD at h
    by_cases e : D n = z
    · rw [if_pos e] at h
      exact ⟨n, by omega, e, Option.some.inj h⟩
    · rw [if_neg e] at h
      obtain ⟨i, h1, h2⟩ := partD_some h
      exact ⟨i, by omega, h2⟩
theorem partD_has {D : Nat → Int} {P : Nat → List Int} {n : Nat} {z : Int} : (partD D P n z).isSome = hasD D n z := by
  cases h : hasD D n z with
  | true =>
    obtain ⟨i, hi, hd⟩ := hasD_true h
    cases h2 : partD D P n z with
    | none => exact absurd hd (partD_none.1 h2 i hi)
    | some x => rfl
  | false =>
    rw [partD_none.2 (hasD_false h)]
    rfl
def joinD (D : Nat → Int) (P : Nat → List Int) (n : Nat) : List Int → Option (List Int)
  | [] => some []
  | z :: r => (partD D P n z).bind fun x => (joinD D P n r).map (x ++ ·)
theorem joinTo_cons (js : Nat → List Int) (k : Nat) : joinTo js (k + 1) = js 0 ++ joinTo (fun j => js (j + 1)) k := by
  unfold joinTo
  rw [List.range_succ_eq_map, List.flatMap_cons, List.flatMap_map]
theorem join_cases (D : Nat → Int) (P : Nat → List Int) (n : Nat) : ∀ zs : List Int, ∃ (m : Nat) (js : Nat → List Int), m ≤ zs.length ∧ (∀ j, j < m → ∃ i, i < n ∧ D i = zs.getD j 0 ∧ P i = js j) ∧ (m < zs.length → ∀ i, i < n → D i ≠ zs.getD m 0) ∧ joinD D P n zs = if m = zs.length then some (joinTo js m) else none
  | [] => ⟨0, fun _ => [], Nat.le_refl _, fun j hj => absurd hj (by omega), fun h => absurd h (by simp), by simp [joinD, joinTo]⟩
  | z :: r => by
    obtain ⟨m, js, h1, h2, h3, h4⟩ := join_cases D P n r
    cases hp : partD D P n z with
    | none => exact ⟨0, fun _ => [], Nat.zero_le _, fun j hj => absurd hj (by omega), fun _ => by simpa using partD_none.1 hp, by simp [joinD, hp]⟩
    | some x =>
      refine ⟨m + 1, fun j => if j = 0 then x else js (j - 1), by simp; omega, fun j hj => ?_, fun h i hi => ?_, ?_⟩
      · cases j with
        | zero =>
          obtain ⟨i, a1, a2, a3⟩ := partD_some hp
          exact ⟨i, a1, by simpa using a2, by simpa using a3⟩
        | succ j =>
          obtain ⟨i, a1, a2, a3⟩ := h2 j (by omega)
          exact ⟨i, a1, by simpa using a2, by simpa using a3⟩
      · have := h3 (by simpa using h) i hi
        simpa using this
      · rw [joinTo_cons]
        simp only [joinD, hp, Option.bind_some, h4, if_true, List.length_cons, Nat.add_right_cancel_iff]
        by_cases hm : m = r.length
        · rw [if_pos hm, if_pos hm]; simp
        · rw [if_neg hm, if_neg hm]; rfl
theorem joinD_none {D : Nat → Int} {P : Nat → List Int} {n : Nat} : ∀ {zs : List Int}, joinD D P n zs = none ↔ ∃ z ∈ zs, hasD D n z = false
  | [] => by simp [joinD]
  | z :: r => by
    have ih := @joinD_none D P n r
    have hh := @partD_has D P n z
    cases hp : partD D P n z with
    | none =>
      rw [hp] at hh
      simp [joinD, hp, ← hh]
    | some x =>
      rw [hp] at hh
      simp only [joinD, hp, Option.bind_some, Option.map_eq_none_iff, ih]
      constructor
      · rintro ⟨a, ha, h⟩; exact ⟨a, List.mem_cons_of_mem _ ha, h⟩
      · rintro ⟨a, ha, h⟩
        rcases List.mem_cons.1 ha with rfl | ha
        · rw [← hh] at h; cases h
        · exact ⟨a, ha, h⟩
theorem miss_nil {D : Nat → Int} {n : Nat} {zs : List Int} : ∀ k, miss D n zs k = [] ↔ ∀ j, j < k → hasD D n (zs.getD j 0) = true
  | 0 => by simp [miss]
  | k + 1 => by
    have ih := @miss_nil D n zs k
    cases hh : hasD D n (zs.getD k 0) with
    | true =>
      rw [miss_stay rfl (.inl hh), ih]
      constructor
      · intro h j hj
        by_cases e : j = k
        · subst e; exact hh
        · exact h j (by omega)
      · intro h j hj; exact h j (by omega)
    | false =>
      constructor
      · intro h
        exfalso
        cases hc : (miss D n zs k).contains (zs.getD k 0) with
        | true =>
          rw [miss_stay rfl (.inr hc)] at h
          rw [h] at hc
          simp at hc
        | false =>
          rw [miss_more rfl hh hc] at h
          simp at h
      · intro h
        have := h k (by omega)
        rw [hh] at this
        cases this
theorem join_miss {D : Nat → Int} {P : Nat → List Int} {n : Nat} {zs : List Int} : joinD D P n zs = none ↔ miss D n zs zs.length ≠ [] := by
  rw [joinD_none, ne_eq, miss_nil]
  constructor
  · rintro ⟨z, hz, h⟩ h2
    obtain ⟨j, hj, rfl⟩ := List.mem_iff_getElem.1 hz
    have := h2 j hj
    rw [List.getD_eq_getElem?_getD, List.getElem?_eq_getElem hj] at this
    rw [Option.getD_some, h] at this
    cases this
  · intro h
    have h1 : ∃ j, j < zs.length ∧ ¬ hasD D n (zs.getD j 0) = true := Classical.byContradiction fun hno => h fun j hj => Classical.byContradiction fun h2 => hno ⟨j, hj, h2⟩
    obtain ⟨j, hj, h2⟩ := h1
    refine ⟨zs.getD j 0, ?_, by simpa using h2⟩
    rw [List.getD_eq_getElem?_getD, List.getElem?_eq_getElem hj]
    exact List.getElem_mem hj
end Go.Proofs.YtejipahfodhmjaaGreat

