/-
  The program's ListTree and RemoveTree.
-/
import Derived.Test.YtbdbhdgfifojoabGreatDoorTreC
namespace Go.Proofs.YtbdbhdgfifojoabGreatDoor
open Go.RowKit Go.Maps
set_option linter.unusedVariables false
attribute [local go_sem ↓] Go.wp_at_zero Go.wp_at_succ

theorem parT_right {p : Bs} (h : faultP p = 0) : parT p = parentP p := by unfold parT above parentP; rw [if_pos h]
theorem parC_right {p : Bs} (h : faultP p = 0) : parC p = if parentP p = [] then 4 else 0 := by
  unfold parC
  rw [if_pos h]
  unfold above
  rw [if_pos h]
  by_cases h0 : parentP p = []
  · rw [if_pos h0, if_pos (parentP_nil.1 h0)]
  · rw [if_neg h0, if_neg (fun e => h0 (parentP_nil.2 e))]
theorem lastT_right {p : Bs} (h : faultP p = 0) : lastT p = lastP p := by unfold lastT lastP; simp [h]
/-- The parent that is asked for: of '/' none. -/
def topQ (p : Bs) : Bs := if p = [47] then [] else p
theorem fault_top : faultP [47] ≠ 0 := by decide
theorem inP_right {p : Bs} {e : En} (hp : p = [47] ∨ faultP p = 0) (he : faultP e.path = 0) : inP p e = decide (parentP e.path = topQ p) := by
  unfold inP topQ
  rw [parC_right he, parT_right he]
  by_cases h0 : parentP e.path = []
  · rw [if_pos h0, if_pos rfl, h0]
    by_cases h1 : p = [47]
    · simp [h1]
    · have h2 : p ≠ [] := by
        rintro rfl
        rcases hp with hp | hp
        · exact h1 hp
        · exact faultP_nil hp
      simp [h1, Ne.symm h2]
  · rw [if_neg h0, if_neg (by decide)]
    by_cases h1 : p = [47]
    · have h3 := (parent_above he h0).1
      have h4 : parentP e.path ≠ [47] := fun e => fault_top (e ▸ h3)
      simp [h1, h0, h4]
    · simp [h1]
theorem filter_kids {es : List En} {p : Bs} (h : RightT es) (hp : p = [47] ∨ faultP p = 0) : es.filter (inP p) = kidsE es (topQ p) := by
  unfold kidsE
  apply List.filter_congr
  intro x hx
  exact inP_right hp (h.path hx)
theorem any_kids {es : List En} {p : Bs} (h : RightT es) (hp : faultP p = 0) : es.any (inP p) = !decide (kidsE es p = []) := by
  have e1 := filter_kids h (.inr hp)
  have e2 : topQ p = p := by unfold topQ; rw [if_neg (fun e : p = [47] => fault_top (e ▸ hp))]
  rw [e2] at e1
  rw [← e1]
  cases hq : es.any (inP p)
  · have : es.filter (inP p) = [] := by
      rw [List.filter_eq_nil_iff]
      exact fun x hx => List.any_eq_false.1 hq x hx
    simp [this]
  · obtain ⟨x, hx, hf⟩ := List.any_eq_true.1 hq
    have : es.filter (inP p) ≠ [] := fun e => by
      have := List.mem_filter.2 ⟨hx, hf⟩
      rw [e] at this; simp at this
    simp [this]
theorem any_find {es : List En} {p : Bs} : (es.any fun e => decide (e.path = p)) = (findE es p).isSome := by
  unfold findE
  cases hq : es.any fun e => decide (e.path = p)
  · rw [List.find?_eq_none.2 (fun x hx => List.any_eq_false.1 hq x hx)]
    rfl
  · obtain ⟨x, hx, hf⟩ := List.any_eq_true.1 hq
    cases hf2 : es.find? fun e => decide (e.path = p) with
    | none => exact absurd hf (List.find?_eq_none.1 hf2 x hx)
    | some y => rfl

/-- What the program's listFault answers. -/
def listC (es : List En) (p : Bs) : Int :=
  if p = [47] then treFaultP es else if statC es p = 0 then (match findE es p with | some e => if e.kind = 2 then 0 else 9 | none => 0) else statC es p
theorem statL_one {es : List En} {p : Bs} (h : statC es p = 0) : ∃ e, findE es p = some e ∧ statL es p = [e] := by
  unfold statC at h
  by_cases h0 : askT es p = 0
  · rw [if_pos h0] at h
    cases hf : findE es p with
    | none => rw [hf] at h; simp at h
    | some e =>
      refine ⟨e, rfl, ?_⟩
      have hz : statC es p = 0 := by rw [statC, if_pos h0, hf]; rfl
      rw [statL, if_pos hz, hf]
      rfl
  · rw [if_neg h0] at h; exact absurd h h0
theorem stat_tree {es : List En} {p : Bs} (h : statC es p = 0) : RightT es ∧ faultP p = 0 := by
  unfold statC at h
  by_cases h0 : askT es p = 0
  · unfold askT at h0
    by_cases h1 : treFaultP es = 0
    · rw [if_pos h1] at h0
      exact ⟨rightT_P.1 h1, h0⟩
    · rw [if_neg h1] at h0; exact absurd h0 h1
  · rw [if_neg h0] at h; exact absurd h h0
theorem list_tree {es : List En} {p : Bs} (h : listC es p = 0) : RightT es ∧ (p = [47] ∨ faultP p = 0) := by
  unfold listC at h
  by_cases h0 : p = [47]
  · rw [if_pos h0] at h
    exact ⟨rightT_P.1 h, .inl h0⟩
  · rw [if_neg h0] at h
    by_cases h1 : statC es p = 0
    · exact ⟨(stat_tree h1).1, .inr (stat_tree h1).2⟩
    · rw [if_neg h1] at h; exact absurd h h1


def listL (es : List En) (p : Bs) : List Bs := if listC es p = 0 then namesE es (topQ p) else []

theorem remove_cases {es : List En} {p : Bs} (h : RightT es) (hp : faultP p = 0) : removeC es p = if (es.any fun e => decide (e.path = p)) then (if es.any (inP p) then 1 else 0) else 4 := by
  unfold removeC
  rw [any_find, any_kids h hp]
  cases findE es p with
  | none => simp
  | some e => by_cases hk : kidsE es p = [] <;> simp [hk]
set_option maxRecDepth 100000 in
set_option maxHeartbeats 1600000 in
theorem removeReply_any (a : Option Addr) (c n : Nat) (es : List En) (p : Bs) (w : World) (h : RdI w a es) (hn : n = es.length) (hR : RightT es) (hp : faultP p = 0) :
    Calls Tryz.prog 59 #[.slice a n c, .string (str p)] w fun r w' => r = .returned (.int .i64 (removeC es p)) ∧ Below w.heap.size w w' := by
  subst hn
  have HR := hide h
  have HS := hide hR.small
  have hl : es.length ≤ 1048576 := by have := hR.len; omega
  have HC := hide (remove_cases hR hp)
  clear h hR hp
  generalize removeC es p = G at *
  go_enter Tryz.func59, Tryz.ntmps59
  go_wp2_with fail
  refine (isAt_any p _).mono ?_
  rintro r w1 ⟨rfl, hb1, hA⟩
  have HA := hide hA
  have B1 := hide hb1
  clear hA hb1
  go_wp2_with fail
  refine (has_any a c es.length es _ _ _ _ (HR.out.below B1.out) rfl hl HS.out HA.out).mono ?_
  rintro r w2 ⟨rfl, hb2⟩
  have B2 := hide (below_next B1.out hb2)
  clear hb2 HA B1
  cases hq : es.any fun e => decide (e.path = p)
  · have HG := hide (show G = 4 from by rw [HC.out, hq]; rfl)
    clear hq
    go_wp2_with fail
    go_ret
    exact ⟨ret_int HG.out.symm, B2.out⟩
  · rw [hq] at HC
    clear hq
    go_wp2_with fail
    refine (isIn_any p _).mono ?_
    rintro r w3 ⟨rfl, hb3, hA⟩
    have HA := hide hA
    have B3 := hide (below_next B2.out hb3)
    clear hA hb3
    go_wp2_with fail
    refine (has_any a c es.length es _ _ _ _ (HR.out.below B3.out) rfl hl HS.out HA.out).mono ?_
    rintro r w4 ⟨rfl, hb4⟩
    have B4 := hide (below_next B3.out hb4)
    clear hb4 HA B3 B2
    cases hq : es.any (inP p)
    · have HG := hide (show G = 0 from by rw [HC.out, hq]; rfl)
      clear hq
      go_wp2_with fail
      go_ret
      exact ⟨ret_int HG.out.symm, B4.out⟩
    · have HG := hide (show G = 1 from by rw [HC.out, hq]; rfl)
      clear hq
      go_wp2_with fail
      go_ret
      exact ⟨ret_int HG.out.symm, B4.out⟩

def remRep (es : List En) (p : Bs) : Int := if askT es p = 0 then removeC es p else 0
def remList (es : List En) (p : Bs) : List En := if askT es p = 0 then removeL es p else []
theorem ask_tree {es : List En} {p : Bs} (h : askT es p = 0) : RightT es ∧ faultP p = 0 := by
  unfold askT at h
  by_cases h1 : treFaultP es = 0
  · rw [if_pos h1] at h
    exact ⟨rightT_P.1 h1, h⟩
  · rw [if_neg h1] at h; exact absurd h h1
set_option maxRecDepth 100000 in
set_option maxHeartbeats 1600000 in
theorem implRemoveTree_any (a : Option Addr) (c n : Nat) (es : List En) (p : Bs) (w : World) (h : RdE w a es) (hn : n = es.length) (hl : es.length ≤ 1048576) (hs : SmallE es) (hp : p.length ≤ 1048576) :
    Calls Tryz.prog 20 #[.slice a n c, .string (str p)] w (ResT (askT es p) (remRep es p) (remList es p) w) := by
  subst hn
  have X0 := hide (Box3.new w (.int .i64 0) (.int .i64 0) (.slice none 0 0) 45)
  have B0 := hide (below_alloc w (.cells #[.int .i64 0, .int .i64 0, .slice none 0 0] 45))
  have HR := hide h
  have HS := hide hs
  clear h hs
  go_enter Tryz.func20, Tryz.ntmps20
  go_wp2_with fail
  refine (implAskT_any a c es.length es p _ (HR.out.below B0.out) rfl hl HS.out hp).mono ?_
  rintro r w1 ⟨rfl, hb1⟩
  have B1 := hide (below_next B0.out hb1)
  have X1 := hide (X0.out.below hb1)
  clear hb1 X0 B0
  by_cases hz : askT es p = 0
  · obtain ⟨hRT, hpf⟩ := ask_tree hz
    have HRT := hide hRT
    have HCC := hide (show askT es p = 0 ∧ remRep es p = removeC es p ∧ remList es p = removeL es p from ⟨hz, by rw [remRep, if_pos hz], by rw [remList, if_pos hz]⟩)
    rw [hz]
    clear hz hRT
    have hb0 : w.heap.size < w1.heap.size := X1.out.lt
    go_wp2_with fail
    refine (treeOf_any a c es.length es _ (HR.out.below B1.out) rfl hl).mono ?_
    rintro r w2 ⟨av, cv, rfl, hL, hb2⟩
    have RI := hide (hL.rd hb2)
    have BB2 := hide hb2
    clear hL hb2
    go_wp2_with fail
    refine (removeReply_any av cv es.length es p _ RI.out rfl HRT.out hpf).mono ?_
    rintro r w3 ⟨rfl, hb3⟩
    have RI3 := hide (RI.out.below hb3)
    have BB3 := hide (below_next BB2.out hb3)
    clear hb3 RI BB2
    by_cases hr : removeC es p = 0
    · have HCD := hide (show removeC es p = 0 ∧ removeL es p = es.filter fun e => !decide (e.path = p) from ⟨hr, by rw [removeL, if_pos hr]; rfl⟩)
      rw [hr]
      clear hr
      go_wp2_with fail
      refine (isAt_any p _).mono ?_
      rintro r w4 ⟨rfl, hb4, hA⟩
      have HA := hide hA
      have RI4 := hide (RI3.out.below hb4)
      have BB4 := hide (below_next BB3.out hb4)
      clear hA hb4
      go_wp2_with fail
      refine (without_any av cv es.length es _ _ _ _ RI4.out rfl hl HS.out HA.out).mono ?_
      obtain ⟨L, hL⟩ : ∃ L, L = es.filter fun e => !decide (e.path = p) := ⟨_, rfl⟩
      have HLs := hide (show SmallE L from fun e he => by rw [hL] at he; exact HS.out e (List.mem_filter.1 he).1)
      have hll : L.length ≤ 1048576 := by rw [hL]; have := List.length_filter_le (fun e : En => !decide (e.path = p)) es; omega
      rw [← hL] at HCD ⊢
      clear hL
      rintro r w5 ⟨av5, cv5, w5', rfl, hL5, hb5, hb5'⟩
      have RI5 := hide (hL5.rd hb5')
      have BB5 := hide (below_next (below_next BB4.out hb5) hb5')
      clear hL5 hb5 hb5' HA RI4
      go_wp2_with fail
      refine (entriesOf_any _ _ _ L _ RI5.out rfl hll HLs.out).mono ?_
      rintro r w6 ⟨av6, cv6, rfl, hG6, hb6⟩
      have BB6 := hide (below_next BB5.out hb6)
      obtain ⟨⟨t0, t1, t2⟩, t3, t4, t5⟩ := X1.out.below BB6.out
      have G6 := hide hG6
      have hs5 := BB5.out.size
      have B6 := hide (below_next B1.out BB6.out)
      clear hG6 hb6
      go_wp2_with fail
      exact bodyPost_ret (v := .agg #[.int .i64 0, .int .i64 0, .slice av6 L.length cv6]) (by simp [results, Tryz.results20, go_sem, t0, t1, t2]) rfl (by rw [HCC.out.1, HCC.out.2.1, HCC.out.2.2, HCD.out.1, HCD.out.2]; exact ResT.of (by omega) (Nat.le_refl _) rfl G6.out B6.out)
    · have HCD := hide (show removeL es p = es from by rw [removeL, if_neg hr])
      generalize removeC es p = G at *
      have hr2 : (G != 0) = true := by simp; exact hr
      clear hr
      go_wp2_with fail
      refine (entriesOf_any _ _ _ es _ RI3.out rfl hl HS.out).mono ?_
      rintro r w6 ⟨av6, cv6, rfl, hG6, hb6⟩
      have BB6 := hide (below_next BB3.out hb6)
      obtain ⟨⟨t0, t1, t2⟩, t3, t4, t5⟩ := X1.out.below BB6.out
      have G6 := hide hG6
      have hs5 := BB3.out.size
      have B6 := hide (below_next B1.out BB6.out)
      clear hG6 hb6
      go_wp2_with fail
      exact bodyPost_ret (v := .agg #[.int .i64 0, .int .i64 G, .slice av6 es.length cv6]) (by simp [results, Tryz.results20, go_sem, t0, t1, t2]) rfl (by rw [HCC.out.1, HCC.out.2.1, HCC.out.2.2, HCD.out]; exact ResT.of (by omega) (Nat.le_refl _) rfl G6.out B6.out)
  · have HCC := hide (show remRep es p = 0 ∧ remList es p = [] from ⟨by rw [remRep, if_neg hz], by rw [remList, if_neg hz]⟩)
    generalize askT es p = F at *
    have hz2 : (F != 0) = true := by simp; exact hz
    clear hz
    obtain ⟨⟨t0, t1, t2⟩, t3, t4, t5⟩ := X1.out
    go_wp2_with fail
    exact bodyPost_ret (v := .agg #[.int .i64 F, .int .i64 0, .slice none 0 0]) (by simp [results, Tryz.results20, go_sem, t0, t1, t2]) rfl (by rw [HCC.out.1, HCC.out.2]; exact ResT.bad (Nat.le_refl _) B1.out)
end Go.Proofs.YtbdbhdgfifojoabGreatDoor
