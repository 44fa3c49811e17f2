/-
  The program's TreeFault, StatTree, ListTree and RemoveTree.
-/
import Derived.Test.YtjkmbicedbdifaaGreatJ3
import Derived.Test.YtjkmbicedbdifaaGreatTreN
import Derived.Test.YtjkmbicedbdifaaGreatJ2
namespace Go.Proofs.YtjkmbicedbdifaaGreat
open Go.RowKit Go.Maps
set_option linter.unusedVariables false
attribute [local go_sem ↓] Go.wp_at_zero Go.wp_at_succ

theorem treP_many {es : List En} (h : 40 < es.length) : treFaultP es = 2 := by simp [treFaultP, h]
theorem treP_kind {es : List En} (h : ¬ 40 < es.length) (hk : (es.any fun e => !treeK e.kind) = true) : treFaultP es = 1 := by
  have : es.all (fun e => treeK e.kind) = false := by
    rw [List.all_eq_false]
    obtain ⟨e, he, h1⟩ := List.any_eq_true.1 hk
    exact ⟨e, he, by simpa using h1⟩
  simp [treFaultP, h, this]
theorem treP_few {es : List En} (h : ¬ 40 < es.length) (hk : (es.any fun e => !treeK e.kind) = false) : treFaultP es = layFromH (homeP es) none es := by
  have : es.all (fun e => treeK e.kind) = true := by
    rw [List.all_eq_true]
    intro e he
    have := List.any_eq_false.1 hk e he
    simpa using this
  rw [treFaultP, if_neg h, this, if_pos rfl]
set_option maxRecDepth 100000 in
set_option maxHeartbeats 800000 in
theorem implTreeFault_any (a : Option Addr) (c n : Nat) (es : List En) (w : World) (h : RdE w a es) (hn : n = es.length) (hl : es.length ≤ 1048576) (hs : SmallE es) :
    Calls Tryz.prog 67 #[.slice a n c] w fun r w' => r = .returned (.int .i64 (treFaultP es)) ∧ Below w.heap.size w w' := by
  subst hn
  by_cases hm : 40 < es.length
  · have HE := hide (treP_many hm)
    have hm2 : (40 : Int) < (es.length : Int) := by omega
    go_enter Tryz.func67, Tryz.ntmps67
    go_wp2_with fail
    go_ret
    exact ⟨ret_int HE.out.symm, Below.refl _ _⟩
  · have hm2 : ¬ (40 : Int) < (es.length : Int) := by omega
    have HK := hide (treP_kind (es := es) hm)
    have HE := hide (treP_few (es := es) hm)
    have HR := hide h
    have HS := hide hs
    clear h hs
    generalize treFaultP es = F at *
    go_enter Tryz.func67, Tryz.ntmps67
    go_wp2_with fail
    refine (treeOf_any a c es.length es _ HR.out rfl hl).mono ?_
    rintro r w1 ⟨av, cv, rfl, hL, hb1⟩
    have RI := hide (hL.rd hb1)
    have B1 := hide hb1
    clear hL hb1
    go_wp2_with fail
    refine (hasI_any av cv es.length es _ _ _ _ RI.out rfl hl HS.out (noTree_asks w1)).mono ?_
    rintro r w2 ⟨rfl, hb2⟩
    have B2 := hide (below_next B1.out hb2)
    clear hb2
    cases hk : es.any fun e => !treeK e.kind
    · have HF := hide (HE.out hk)
      clear hk
      go_wp2_with fail
      refine (entriesFault_any a c es.length es _ (HR.out.below B2.out) rfl hl HS.out).mono ?_
      rintro r w3 ⟨rfl, hb3⟩
      rw [← HF.out]
      have B3 := hide (below_next B2.out hb3)
      clear hb3
      go_wp2_with fail
      go_ret
      exact ⟨rfl, B3.out⟩
    · have HF := hide (HK.out hk)
      clear hk
      go_wp2_with fail
      go_ret
      exact ⟨ret_int HF.out.symm, B2.out⟩

/-- What is asked of a tree and a path. -/
def askT (es : List En) (p : Bs) : Int := if treFaultP es = 0 then faultP p else treFaultP es
set_option maxRecDepth 100000 in
set_option maxHeartbeats 800000 in
theorem implAskT_any (a : Option Addr) (c n : Nat) (es : List En) (p : Bs) (w : World) (h : RdE w a es) (hn : n = es.length) (hl : es.length ≤ 1048576) (hs : SmallE es) (hp : p.length ≤ 1048576) :
    Calls Tryz.prog 43 #[.slice a n c, .string (str p)] w fun r w' => r = .returned (.int .i64 (askT es p)) ∧ Below w.heap.size w w' := by
  subst hn
  have HR := hide h
  have HS := hide hs
  clear h hs
  have HA := hide (show askT es p = if treFaultP es = 0 then faultP p else treFaultP es from rfl)
  have HT := hide (implTreeFault_any a c es.length es w HR.out rfl hl HS.out)
  generalize askT es p = G at *
  generalize treFaultP es = F at *
  go_enter Tryz.func43, Tryz.ntmps43
  go_wp2_with fail
  refine HT.out.mono ?_
  rintro r w1 ⟨rfl, hb1⟩
  have B1 := hide hb1
  clear hb1 HT
  by_cases hz : F = 0
  · have HG := hide (show G = faultP p from by rw [HA.out, if_pos hz])
    rw [hz]
    clear hz HA
    go_wp2_with fail
    refine (implPathFault_any (str p) _ (by rw [str_size]; omega)).mono ?_
    rintro r w2 ⟨rfl, hb2⟩
    rw [str_data, ← HG.out]
    have B2 := hide (below_next B1.out hb2)
    clear hb2
    go_wp2_with fail
    go_ret
    exact ⟨rfl, B2.out⟩
  · have HG := hide (show G = F from by rw [HA.out, if_neg hz])
    have hz2 : (F != 0) = true := by simp; exact hz
    clear hz HA
    go_wp2_with fail
    go_ret
    exact ⟨ret_int HG.out.symm, B1.out⟩

def statC (es : List En) (p : Bs) : Int := if askT es p = 0 then (if (findE es p).isSome then 0 else 4) else askT es p
def statL (es : List En) (p : Bs) : List En := if statC es p = 0 then (findE es p).toList else []
set_option maxRecDepth 100000 in
set_option maxHeartbeats 1600000 in
theorem implStatTree_any (a : Option Addr) (c n : Nat) (es : List En) (p : Bs) (w : World) (h : RdE w a es) (hn : n = es.length) (hl : es.length ≤ 1048576) (hs : SmallE es) (hp : p.length ≤ 1048576) :
    Calls Tryz.prog 14 #[.slice a n c, .string (str p)] w (ResE (statC es p) (statL es p) w) := by
  subst hn
  have X0 := hide (Box.new w (.int .i64 0) (.slice none 0 0) 36)
  have B0 := hide (below_alloc w (.cells #[.int .i64 0, .slice none 0 0] 36))
  have HR := hide h
  have HS := hide hs
  clear h hs
  go_enter Tryz.func14, Tryz.ntmps14
  go_wp2_with fail
  refine (implAskT_any a c es.length es p _ (HR.out.below B0.out) rfl hl HS.out hp).mono ?_
  rintro r w1 ⟨rfl, hb1⟩
  have B1 := hide (below_next B0.out hb1)
  have X1 := hide (X0.out.below hb1)
  clear hb1 X0 B0
  by_cases hz : askT es p = 0
  · have HC := hide (show statC es p = if (findE es p).isSome then 0 else 4 from by simp [statC, hz])
    rw [hz]
    clear hz
    have hb0 : w.heap.size < w1.heap.size := X1.out.1.lt
    go_wp2_with fail
    refine (treeOf_any a c es.length es _ (HR.out.below B1.out) rfl hl).mono ?_
    rintro r w2 ⟨av, cv, rfl, hL, hb2⟩
    have RI := hide (hL.rd hb2)
    have BB2 := hide hb2
    clear hL hb2
    go_wp2_with fail
    refine (isAt_any p _).mono ?_
    rintro r w3 ⟨rfl, hb3, hA⟩
    have HA := hide hA
    have RI3 := hide (RI.out.below hb3)
    have BB3 := hide (below_next BB2.out hb3)
    clear hA hb3 RI BB2
    go_wp2_with fail
    refine (first_any av cv es.length es _ _ _ _ RI3.out rfl hl HS.out HA.out).mono ?_
    rintro r w4 ⟨hfi, hb4⟩
    rcases hfi with ⟨e, x, cc, hq, rfl, hrd⟩ | ⟨hq, rfl⟩
    · have HFE := hide (show findE es p = some e from hq)
      have HCC := hide (show statC es p = 0 ∧ statL es p = [e] from by
        have h0 : statC es p = 0 := by rw [HC.out, HFE.out]; rfl
        exact ⟨h0, by rw [statL, if_pos h0, HFE.out]; rfl⟩)
      have hsm := HS.out e (find_mem (show findE es p = some e from hq)).1
      have BB4 := hide (below_next BB3.out hb4)
      have BA5 := hide (below_alloc w4 (.cells #[.int .i64 e.size, .slice x e.chunks.length cc, .string (str e.path), .int .i64 e.kind] 64))
      have F5 := hide (Four.new w4 (.int .i64 e.size) (.slice x e.chunks.length cc) (.string (str e.path)) (.int .i64 e.kind) 64)
      have HRc := hide ((hrd.below hb4).below BA5.out)
      have RI5 := hide (RdI.fresh (e := e) (c := cc) (t := 64) HRc.out)
      have BI := hide (below_alloc (w4.alloc (.cells #[.int .i64 e.size, .slice x e.chunks.length cc, .string (str e.path), .int .i64 e.kind] 64)) (.cells #[.int .i64 e.size, .slice x e.chunks.length cc, .string (str e.path), .int .i64 e.kind] 64))
      have hw5 : (w4.alloc (.cells #[.int .i64 e.size, .slice x e.chunks.length cc, .string (str e.path), .int .i64 e.kind] 64)).heap.size = w4.heap.size + 1 := by simp
      rw [hw5] at RI5
      have BX := hide (below_next BA5.out BI.out)
      clear hq hrd hb4 F5 HRc hw5 BI BA5
      go_wp2_with fail
      generalize (w4.alloc (.cells #[.int .i64 e.size, .slice x e.chunks.length cc, .string (str e.path), .int .i64 e.kind] 64)).alloc (.cells #[.int .i64 e.size, .slice x e.chunks.length cc, .string (str e.path), .int .i64 e.kind] 64) = W6 at *
      refine (entriesOf_any _ _ 1 [e] _ RI5.out rfl (by simp) (fun y hy => by simp only [List.mem_singleton] at hy; subst hy; exact hsm)).mono ?_
      rintro r w7 ⟨av7, cv7, rfl, hG7, hb7⟩
      have BB7 := hide (below_next (below_next BB4.out BX.out) hb7)
      obtain ⟨⟨t0, t1⟩, t2, t3⟩ := X1.out.below BB7.out
      have G7 := hide hG7
      have hs4 := BB4.out.size
      have hs5 := BX.out.size
      have B7 := hide (below_next B1.out BB7.out)
      clear hG7 hb7
      go_wp2_with fail
      exact bodyPost_ret (v := .agg #[.int .i64 0, .slice av7 1 cv7]) (by simp [results, Tryz.results14, go_sem, t0, t1]) rfl (by rw [HCC.out.1, HCC.out.2]; exact ResE.of (w2 := w1) (by omega) (Nat.le_refl _) rfl G7.out B7.out)
    · have HFE := hide (show findE es p = none from hq)
      have HCC := hide (show statC es p = 4 ∧ statL es p = [] from by
        have h0 : statC es p = 4 := by rw [HC.out, HFE.out]; rfl
        exact ⟨h0, by rw [statL, if_neg (by rw [h0]; decide)]⟩)
      have BB4 := hide (below_next (below_next BB3.out hb4) (below_alloc w4 (.cells #[.int .i64 0, .slice none 0 0, .string ⟨#[]⟩, .int .i64 0] 64)))
      clear hq hb4
      obtain ⟨⟨t0, t1⟩, t2, t3⟩ := X1.out.below BB4.out
      have B4 := hide (below_next B1.out BB4.out)
      go_wp2_with fail
      exact bodyPost_ret (v := .agg #[.int .i64 4, .slice none 0 0]) (by simp [results, Tryz.results14, go_sem, t0, t1]) rfl (by rw [HCC.out.1, HCC.out.2]; exact ResE.bad (Nat.le_refl _) B4.out)
  · have HCC := hide (show statC es p = askT es p ∧ statL es p = [] from by
      have h0 : statC es p = askT es p := by simp [statC, hz]
      exact ⟨h0, by rw [statL, if_neg (by rw [h0]; exact hz)]⟩)
    generalize askT es p = F at *
    have hz2 : (F != 0) = true := by simp; exact hz
    clear hz
    obtain ⟨⟨t0, t1⟩, t2, t3⟩ := X1.out
    go_wp2_with fail
    exact bodyPost_ret (v := .agg #[.int .i64 F, .slice none 0 0]) (by simp [results, Tryz.results14, go_sem, t0, t1]) rfl (by rw [HCC.out.1, HCC.out.2]; exact ResE.bad (Nat.le_refl _) B1.out)
end Go.Proofs.YtjkmbicedbdifaaGreat
