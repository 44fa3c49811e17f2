/-
  The program's layer laid over a tree.
-/
import Derived.Test.YtjkmbicedbdifaaGreatMerQ
import Derived.Test.YtjkmbicedbdifaaGreatTreC
namespace Go.Proofs.YtjkmbicedbdifaaGreat
open Go.RowKit Go.Maps
set_option linter.unusedVariables false
attribute [local go_sem ↓] Go.wp_at_zero Go.wp_at_succ

/-- What MergeLayer answers. -/
def mrgCode (t L : List En) : Int := if treFaultP t = 0 then (if layFaultP L = 0 then (if 40 < (mergeE t L).length then 2 else 0) else layFaultP L) else treFaultP t
def mrgList (t L : List En) : List En := if mrgCode t L = 0 then mergeE t L else []
theorem mrg_tree {t L : List En} (h : treFaultP t ≠ 0) : mrgCode t L = treFaultP t ∧ mrgList t L = [] := by
  have h1 : mrgCode t L = treFaultP t := by rw [mrgCode, if_neg h]
  exact ⟨h1, by rw [mrgList, if_neg (by rw [h1]; exact h)]⟩
theorem mrg_layer {t L : List En} (h : treFaultP t = 0) (h2 : layFaultP L ≠ 0) : mrgCode t L = layFaultP L ∧ mrgList t L = [] := by
  have h1 : mrgCode t L = layFaultP L := by rw [mrgCode, if_pos h, if_neg h2]
  exact ⟨h1, by rw [mrgList, if_neg (by rw [h1]; exact h2)]⟩
theorem mrg_many {t L : List En} (h : treFaultP t = 0) (h2 : layFaultP L = 0) (h3 : 40 < (mergeE t L).length) : mrgCode t L = 2 ∧ mrgList t L = [] := by
  have h1 : mrgCode t L = 2 := by rw [mrgCode, if_pos h, if_pos h2, if_pos h3]
  exact ⟨h1, by rw [mrgList, if_neg (by rw [h1]; decide)]⟩
theorem mrg_ok {t L : List En} (h : treFaultP t = 0) (h2 : layFaultP L = 0) (h3 : ¬ 40 < (mergeE t L).length) : mrgCode t L = 0 ∧ mrgList t L = mergeE t L := by
  have h1 : mrgCode t L = 0 := by rw [mrgCode, if_pos h, if_pos h2, if_neg h3]
  exact ⟨h1, by rw [mrgList, if_pos h1]⟩
theorem merge_next {t L : List En} {k : Nat} {e : En} (he : L[k]? = some e) : mergeE t (L.take (k + 1)) = overE (mergeE t (L.take k)) e := by
  rw [take_next he]; simp [mergeE, List.foldl_append]

set_option maxRecDepth 100000 in
set_option maxHeartbeats 3200000 in
theorem implMergeLayer_any (a : Option Addr) (c n : Nat) (t : List En) (b : Option Addr) (d m : Nat) (L : List En) (w : World) (h : RdE w a t) (hn : n = t.length) (hl : t.length ≤ 1000000) (hs : SmallE t) (h2 : RdE w b L) (hm : m = L.length) (hl2 : L.length ≤ 1000000) (hs2 : SmallE L) :
    Calls Tryz.prog 28 #[.slice a n c, .slice b m d] w (ResT (mrgCode t L) 0 (mrgList t L) w) := by
  subst hn hm
  have X0 := hide (Box3.new w (.int .i64 0) (.int .i64 0) (.slice none 0 0) 32)
  have B0 := hide (below_alloc w (.cells #[.int .i64 0, .int .i64 0, .slice none 0 0] 32))
  have HR := hide h
  have HS := hide hs
  have HR2 := hide h2
  have HS2 := hide hs2
  clear h hs h2 hs2
  go_enter Tryz.func28, Tryz.ntmps28
  go_wp2_with fail
  refine (implTreeFault_any a c t.length t _ (HR.out.below B0.out) rfl (by omega) HS.out).mono ?_
  rintro r w1 ⟨rfl, hb1⟩
  have B1 := hide (below_next B0.out hb1)
  have X1 := hide (X0.out.below hb1)
  have hb0 : w.heap.size < w1.heap.size := X1.out.lt
  clear hb1 X0 B0
  by_cases hz : treFaultP t = 0
  · have HZ := hide hz
    rw [hz]
    clear hz
    go_wp2_with fail
    refine (implLayerFault_any b d L.length L _ (HR2.out.below B1.out) rfl (by omega) HS2.out).mono ?_
    rintro r w2 ⟨rfl, hb2⟩
    have B2 := hide (below_next B1.out hb2)
    have X2 := hide (X1.out.below hb2)
    have hs12 := hb2.size
    clear hb2 X1
    by_cases hz2 : layFaultP L = 0
    · have HZ2 := hide hz2
      have HRT := hide (rightT_fit.1 (rightT_P.1 HZ.out))
      have HRL := hide (right_fit.1 (right_P.1 hz2))
      have hl40 := HRT.out.2
      have hl12 := HRL.out.2
      rw [hz2]
      clear hz2
      go_wp2_with fail
      refine (treeOf_any a c t.length t _ (HR.out.below B2.out) rfl (by omega)).mono ?_
      rintro r w3 ⟨av, cv, rfl, hL, hb3⟩
      have RI := hide (hL.rd hb3)
      have B3 := hide (below_next B2.out hb3)
      have BX3 := hide hb3
      clear hL hb3
      go_wp2_with fail
      go_loopw [7, 26] (fun v i wr => ∃ (k : Nat) (va : Option Addr) (vc : Nat), k ≤ L.length ∧ i = .int .i64 k ∧ v = .slice va (mergeE t (L.take k)).length vc ∧ Hid (RdI wr va (mergeE t (L.take k))) ∧ Hid (Below w2.heap.size w2 wr)) (fun _ i _ => L.length - (intOf i).toNat)
      case atStart => exact ⟨0, av, cv, Nat.zero_le _, rfl, rfl, hide RI.out, hide BX3.out⟩
      case round =>
        obtain ⟨k, va, vc, hk, rfl, rfl, HI, HW⟩ := hrel
        have hml := merge_len (L.take k) t
        rw [List.length_take] at hml
        by_cases hlt : k < L.length
        · obtain ⟨bb, off, e, x, cc, rfl, hbb, he, c0, c1, c2, c3, hr⟩ := (HR2.out.below (below_next B2.out HW.out)).at hlt
          have hee := HRL.out.1.ent e (List.mem_of_getElem? he)
          have HX := hide he
          have HRc := hide hr
          have HFk := hide (merge_view HRT.out.1 HRL.out.1 k hk).1
          have HN := hide (merge_next (t := t) he)
          clear he hr
          have BA := hide (below_alloc wr (.cells #[.string (str e.path), .int .i64 e.kind, .int .i64 e.size, .slice x e.chunks.length cc] 40))
          generalize mergeE t (L.take k) = M at *
          go_wp2_with fail
          refine (itemOf_any (str e.path) e.kind e.size x e.chunks.length cc _).mono ?_
          rintro r w4 ⟨rfl, hb4⟩
          have BB4 := hide (below_next BA.out hb4)
          clear hb4 c0 c1 c2 c3
          go_wp2_with fail
          refine (saidBy_any e x cc _ (ent_kinds hee)).mono ?_
          rintro r w5 ⟨rfl, hb5⟩
          have BB5 := hide (below_next BB4.out hb5)
          clear hb5
          go_wp2_with fail
          refine (laidOver_any va vc M.length M e x cc _ (HI.out.below BB5.out) rfl (by omega) HFk.out hee (HRc.out.below BB5.out)).mono ?_
          rintro r w6 ⟨av6, cv6, rfl, hri6, hb6⟩
          have BB6 := hide (below_next BB5.out hb6)
          have RI6 := hide hri6
          clear hri6 hb6
          rw [← HN.out] at RI6 ⊢
          go_wp2_with fail
          go_roundw
          case rel => exact ⟨k + 1, av6, cv6, by omega, by go_num, rfl, RI6, hide (below_next HW.out BB6.out)⟩
          case measure => simp [intOf]; omega
        · have HE := hide (show L.take k = L from List.take_of_length_le (by omega))
          rw [HE.out] at HI hml ⊢
          clear HE
          have HFl := hide (merge_fit HRT.out.1 HRL.out.1)
          have HSm := hide HFl.out.fit.small
          by_cases h40 : 40 < (mergeE t L).length
          · have HCC := hide (mrg_many HZ.out HZ2.out h40)
            have hg40 : (40 : Int) < ((mergeE t L).length : Int) := by omega
            obtain ⟨⟨t0, t1, t2⟩, t3, t4, t5⟩ := X2.out.below HW.out
            go_wp2_with fail
            exact bodyPost_ret (v := .agg #[.int .i64 2, .int .i64 0, .slice none 0 0]) (by simp [results, Tryz.results28, go_sem, t0, t1, t2]) rfl (by rw [HCC.out.1, HCC.out.2]; exact ResT.bad (Nat.le_refl _) (below_next B2.out HW.out))
          · have HCC := hide (mrg_ok HZ.out HZ2.out h40)
            have hg40 : ¬ (40 : Int) < ((mergeE t L).length : Int) := by omega
            generalize mergeE t L = M at *
            go_wp2_with fail
            refine (entriesOf_any _ _ _ M _ HI.out rfl (by omega) HSm.out).mono ?_
            rintro r w6 ⟨av6, cv6, rfl, hG6, hb6⟩
            have BB6 := hide (below_next HW.out hb6)
            obtain ⟨⟨t0, t1, t2⟩, t3, t4, t5⟩ := X2.out.below BB6.out
            have G6 := hide hG6
            have hs5 := HW.out.size
            have B6 := hide (below_next B2.out BB6.out)
            clear hG6 hb6
            go_wp2_with fail
            exact bodyPost_ret (v := .agg #[.int .i64 0, .int .i64 0, .slice av6 M.length cv6]) (by simp [results, Tryz.results28, go_sem, t0, t1, t2]) rfl (by rw [HCC.out.1, HCC.out.2]; exact ResT.of (by omega) (Nat.le_refl _) rfl G6.out B6.out)
    · have HCC := hide (mrg_layer HZ.out hz2)
      generalize layFaultP L = F at *
      have hz3 : (F != 0) = true := by simp; exact hz2
      clear hz2
      obtain ⟨⟨t0, t1, t2⟩, t3, t4, t5⟩ := X2.out
      go_wp2_with fail
      exact bodyPost_ret (v := .agg #[.int .i64 F, .int .i64 0, .slice none 0 0]) (by simp [results, Tryz.results28, go_sem, t0, t1, t2]) rfl (by rw [HCC.out.1, HCC.out.2]; exact ResT.bad (Nat.le_refl _) B2.out)
  · have HCC := hide (mrg_tree (L := L) hz)
    generalize treFaultP t = F at *
    have hz3 : (F != 0) = true := by simp; exact hz
    clear hz
    obtain ⟨⟨t0, t1, t2⟩, t3, t4, t5⟩ := X1.out
    go_wp2_with fail
    exact bodyPost_ret (v := .agg #[.int .i64 F, .int .i64 0, .slice none 0 0]) (by simp [results, Tryz.results28, go_sem, t0, t1, t2]) rfl (by rw [HCC.out.1, HCC.out.2]; exact ResT.bad (Nat.le_refl _) B1.out)
end Go.Proofs.YtjkmbicedbdifaaGreat
