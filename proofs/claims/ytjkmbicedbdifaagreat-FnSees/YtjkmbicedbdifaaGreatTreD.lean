/-
  The program's ListTree and RemoveTree.
-/
import Derived.Test.YtjkmbicedbdifaaGreatTreC
namespace Go.Proofs.YtjkmbicedbdifaaGreat
open Go.RowKit Go.Maps
set_option linter.unusedVariables false
attribute [local go_sem ↓] Go.wp_at_zero Go.wp_at_succ

theorem parT_right {p : Bs} (h : faultP p = 0) : parT p = parentP p := by unfold parT above parentP; rw [if_pos h]
theorem parC_right {p : Bs} (h : faultP p = 0) : parC p = if parentP p = [] then 4 else 0 := by
  unfold parC
  rw [if_pos h]
  unfold above
  rw [if_pos h]
  by_cases h0 : parentP p = []
  · rw [if_pos h0, if_pos (parentP_nil.1 h0)]
  · rw [if_neg h0, if_neg (fun e => h0 (parentP_nil.2 e))]
theorem lastT_right {p : Bs} (h : faultP p = 0) : lastT p = lastP p := by unfold lastT lastP; simp [h]
/-- The parent that is asked for: of '/' none. -/
def topQ (p : Bs) : Bs := if p = [47] then [] else p
theorem fault_top : faultP [47] ≠ 0 := by decide
theorem inP_right {p : Bs} {e : En} (hp : p = [47] ∨ faultP p = 0) (he : faultP e.path = 0) : inP p e = decide (parentP e.path = topQ p) := by
  unfold inP topQ
  rw [parC_right he, parT_right he]
  by_cases h0 : parentP e.path = []
  · rw [if_pos h0, if_pos rfl, h0]
    by_cases h1 : p = [47]
    · simp [h1]
    · have h2 : p ≠ [] := by
        rintro rfl
        rcases hp with hp | hp
        · exact h1 hp
        · exact faultP_nil hp
      simp [h1, Ne.symm h2]
  · rw [if_neg h0, if_neg (by decide)]
    by_cases h1 : p = [47]
    · have h3 := (parent_above he h0).1
      have h4 : parentP e.path ≠ [47] := fun e => fault_top (e ▸ h3)
      simp [h1, h0, h4]
    · simp [h1]
theorem filter_kids {es : List En} {p : Bs} (h : RightT es) (hp : p = [47] ∨ faultP p = 0) : es.filter (inP p) = kidsE es (topQ p) := by
  unfold kidsE
  apply List.filter_congr
  intro x hx
  exact inP_right hp (h.path hx)
theorem any_kids {es : List En} {p : Bs} (h : RightT es) (hp : faultP p = 0) : es.any (inP p) = !decide (kidsE es p = []) := by
  have e1 := filter_kids h (.inr hp)
  have e2 : topQ p = p := by unfold topQ; rw [if_neg (fun e : p = [47] => fault_top (e ▸ hp))]
  rw [e2] at e1
  rw [← e1]
  cases hq : es.any (inP p)
  · have : es.filter (inP p) = [] := by
      rw [List.filter_eq_nil_iff]
      exact fun x hx => List.any_eq_false.1 hq x hx
    simp [this]
  · obtain ⟨x, hx, hf⟩ := List.any_eq_true.1 hq
    have : es.filter (inP p) ≠ [] := fun e => by
      have := List.mem_filter.2 ⟨hx, hf⟩
      rw [e] at this; simp at this
    simp [this]
theorem any_find {es : List En} {p : Bs} : (es.any fun e => decide (e.path = p)) = (findE es p).isSome := by
  unfold findE
  cases hq : es.any fun e => decide (e.path = p)
  · rw [List.find?_eq_none.2 (fun x hx => List.any_eq_false.1 hq x hx)]
    rfl
  · obtain ⟨x, hx, hf⟩ := List.any_eq_true.1 hq
    cases hf2 : es.find? fun e => decide (e.path = p) with
    | none => exact absurd hf (List.find?_eq_none.1 hf2 x hx)
    | some y => rfl

/-- What the program's listFault answers. -/
def listC (es : List En) (p : Bs) : Int :=
  if p = [47] then treFaultP es else if statC es p = 0 then (match findE es p with | some e => if e.kind = 2 then 0 else 9 | none => 0) else statC es p
theorem statL_one {es : List En} {p : Bs} (h : statC es p = 0) : ∃ e, findE es p = some e ∧ statL es p = [e] := by
  unfold statC at h
  by_cases h0 : askT es p = 0
  · rw [if_pos h0] at h
    cases hf : findE es p with
    | none => rw [hf] at h; simp at h
    | some e =>
      refine ⟨e, rfl, ?_⟩
      have hz : statC es p = 0 := by rw [statC, if_pos h0, hf]; rfl
      rw [statL, if_pos hz, hf]
      rfl
  · rw [if_neg h0] at h; exact absurd h h0
theorem stat_tree {es : List En} {p : Bs} (h : statC es p = 0) : RightT es ∧ faultP p = 0 := by
  unfold statC at h
  by_cases h0 : askT es p = 0
  · unfold askT at h0
    by_cases h1 : treFaultP es = 0
    · rw [if_pos h1] at h0
      exact ⟨rightT_P.1 h1, h0⟩
    · rw [if_neg h1] at h0; exact absurd h0 h1
  · rw [if_neg h0] at h; exact absurd h h0
theorem list_tree {es : List En} {p : Bs} (h : listC es p = 0) : RightT es ∧ (p = [47] ∨ faultP p = 0) := by
  unfold listC at h
  by_cases h0 : p = [47]
  · rw [if_pos h0] at h
    exact ⟨rightT_P.1 h, .inl h0⟩
  · rw [if_neg h0] at h
    by_cases h1 : statC es p = 0
    · exact ⟨(stat_tree h1).1, .inr (stat_tree h1).2⟩
    · rw [if_neg h1] at h; exact absurd h h1

set_option maxRecDepth 100000 in
set_option maxHeartbeats 1600000 in
theorem listFault_any (a : Option Addr) (c n : Nat) (es : List En) (p : Bs) (w : World) (h : RdE w a es) (hn : n = es.length) (hl : es.length ≤ 1048576) (hs : SmallE es) (hp : p.length ≤ 1048576) :
    Calls Tryz.prog 54 #[.slice a n c, .string (str p)] w fun r w' => r = .returned (.int .i64 (listC es p)) ∧ Below w.heap.size w w' := by
  subst hn
  have HR := hide h
  have HS := hide hs
  clear h hs
  have hs1 : ((str p).toList == [47]) = decide (p = [47]) := by rw [str_toList]; by_cases h47 : p = [47] <;> simp [h47]
  by_cases h0 : p = [47]
  · rw [decide_eq_true h0] at hs1
    have HC := hide (show listC es p = treFaultP es from by rw [listC, if_pos h0])
    clear h0
    go_enter Tryz.func54, Tryz.ntmps54
    go_wp2_with fail
    refine (implTreeFault_any a c es.length es w HR.out rfl hl HS.out).mono ?_
    rintro r w1 ⟨rfl, hb1⟩
    rw [← HC.out]
    have B1 := hide hb1
    clear hb1
    go_wp2_with fail
    go_ret
    exact ⟨rfl, B1.out⟩
  · rw [decide_eq_false h0] at hs1
    have HC := hide (show listC es p = if statC es p = 0 then (match findE es p with | some e => if e.kind = 2 then 0 else 9 | none => 0) else statC es p from by rw [listC, if_neg h0])
    clear h0
    go_enter Tryz.func54, Tryz.ntmps54
    go_wp2_with fail
    refine (implStatTree_any a c es.length es p w HR.out rfl hl HS.out hp).mono ?_
    rintro r w1 ⟨av, cv, rfl, hG, hb1⟩
    by_cases hz : statC es p = 0
    · obtain ⟨e, hfe, hsl⟩ := statL_one hz
      have hll : (statL es p).length = 1 := by rw [hsl]; rfl
      rw [hll, hsl] at hG
      rw [hz, hll]
      have HC2 := hide (show listC es p = if e.kind = 2 then 0 else 9 from by rw [HC.out, if_pos hz, hfe])
      obtain ⟨g, rfl, -⟩ := hG.addr rfl (.inl (by decide))
      have B0 := hide (below_alloc w1 (.cells #[.int .i64 0, .slice (some ⟨g, 0, none⟩) 1 cv] 36))
      have B1 := hide (below_next hb1 B0.out)
      obtain ⟨b, off, e', x, cc, hbb, hb, he, c0, c1, c2, c3, hr⟩ := hG.rd.at (k := 0) (by simp)
      simp only [Option.some.injEq, Addr.mk.injEq, and_true] at hbb
      obtain ⟨rfl, rfl⟩ := hbb
      simp only [List.getElem?_cons_zero, Option.some.injEq] at he
      subst he
      have c1' := (B0.out.cell (p := ⟨g, 1, none⟩) hb).trans (show w1.cell? ⟨g, 1, none⟩ = some (.int .i64 e.kind) by simpa using c1)
      clear hr c0 c1 c2 c3 hz hfe hsl hll hG hb1 HC
      by_cases hk : e.kind = 2
      · have hb2 : (e.kind != 2) = false := by simp [hk]
        have HZ := hide (show listC es p = 0 from by rw [HC2.out, if_pos hk])
        clear hk HC2
        go_wp2_with fail
        go_ret
        exact ⟨ret_int HZ.out.symm, B1.out⟩
      · have hb2 : (e.kind != 2) = true := by simp [hk]
        have HZ := hide (show listC es p = 9 from by rw [HC2.out, if_neg hk])
        clear hk HC2
        go_wp2_with fail
        go_ret
        exact ⟨ret_int HZ.out.symm, B1.out⟩
    · have HZ := hide (show listC es p = statC es p from by rw [HC.out, if_neg hz])
      have hz2 : (statC es p != 0) = true := by simp; exact hz
      generalize statC es p = F at *
      generalize statL es p = L at *
      have B1 := hide (below_next hb1 (below_alloc w1 (.cells #[.int .i64 F, .slice av L.length cv] 36)))
      clear hz HC hG hb1
      go_wp2_with fail
      go_ret
      exact ⟨ret_int HZ.out.symm, B1.out⟩

def listL (es : List En) (p : Bs) : List Bs := if listC es p = 0 then namesE es (topQ p) else []
set_option maxRecDepth 100000 in
set_option maxHeartbeats 1600000 in
theorem implListTree_any (a : Option Addr) (c n : Nat) (es : List En) (p : Bs) (w : World) (h : RdE w a es) (hn : n = es.length) (hl : es.length ≤ 1048576) (hs : SmallE es) (hp : p.length ≤ 1048576) :
    Calls Tryz.prog 18 #[.slice a n c, .string (str p)] w (ResN (listC es p) (listL es p) w) := by
  subst hn
  obtain ⟨i1, ki, kz0, kz1, kz2⟩ := info_parts infoS
  have X0 := hide (Box.new w (.int .i64 0) (.slice none 0 0) 28)
  have B0 := hide (below_alloc w (.cells #[.int .i64 0, .slice none 0 0] 28))
  have HR := hide h
  have HS := hide hs
  clear h hs
  go_enter Tryz.func18, Tryz.ntmps18
  go_wp2_with fail
  refine (listFault_any a c es.length es p _ (HR.out.below B0.out) rfl hl HS.out hp).mono ?_
  rintro r w1 ⟨rfl, hb1⟩
  have B1 := hide (below_next B0.out hb1)
  have X1 := hide (X0.out.below hb1)
  clear hb1 X0 B0
  by_cases hz : listC es p = 0
  · obtain ⟨hRT, hpp⟩ := list_tree hz
    have HCC := hide (show listC es p = 0 ∧ listL es p = namesE es (topQ p) from ⟨hz, by rw [listL, if_pos hz]⟩)
    have HFK := hide (filter_kids hRT hpp)
    have HRT := hide hRT
    rw [hz]
    clear hz hRT hpp
    have hb0 : w.heap.size < w1.heap.size := X1.out.1.lt
    go_wp2_with fail
    refine (treeOf_any a c es.length es _ (HR.out.below B1.out) rfl hl).mono ?_
    rintro r w2 ⟨av, cv, rfl, hL, hb2⟩
    have RI := hide (hL.rd hb2)
    have BB2 := hide hb2
    clear hL hb2
    go_wp2_with fail
    refine (isIn_any p _).mono ?_
    rintro r w3 ⟨rfl, hb3, hA⟩
    have HA := hide hA
    have RI3 := hide (RI.out.below hb3)
    have BB3 := hide (below_next BB2.out hb3)
    clear hA hb3 RI BB2
    go_wp2_with fail
    refine (those_any av cv es.length es _ _ _ _ RI3.out rfl hl HS.out HA.out).mono ?_
    rw [HFK.out]
    obtain ⟨ks, hks⟩ : ∃ ks, ks = kidsE es (topQ p) := ⟨_, rfl⟩
    have HN := hide (show namesE es (topQ p) = ks.map fun e => lastP e.path from by rw [hks]; rfl)
    have HKM := hide (show ∀ e ∈ ks, faultP e.path = 0 ∧ e.path.length ≤ 1048576 from fun e he => by
      rw [hks] at he
      have := (List.mem_filter.1 he).1
      exact ⟨HRT.out.path this, (HS.out e this).1⟩)
    have hkl : ks.length ≤ 1048576 := by rw [hks]; have := List.length_filter_le (fun x : En => decide (parentP x.path = topQ p)) es; unfold kidsE; omega
    rw [← hks]
    clear hks HFK
    rintro r w4 ⟨av4, cv4, rfl, hL4, hb4⟩
    have RK := hide (hL4.rd hb4)
    have BB4 := hide (below_next BB3.out hb4)
    have hs4 := BB4.out.size
    clear hL4 hb4 BB3 RI3 HA
    go_wp2_with fail
    go_loopw [6, 22] (fun v i wr => ∃ k : Nat, k ≤ ks.length ∧ i = .int .i64 k ∧ Hid (OwnS w4.heap.size wr v ((ks.take k).map fun e => lastP e.path)) ∧ Hid (Below w4.heap.size w4 wr)) (fun _ i _ => ks.length - (intOf i).toNat)
    case atStart => exact ⟨0, Nat.zero_le _, rfl, hide (OwnS.nil _ _), hide (Below.refl _ _)⟩
    case round =>
      obtain ⟨k, hk, rfl, HO, HW⟩ := hrel
      have hsz := HW.out.size
      obtain ⟨lv, lc, hv⟩ := HO.out.shape
      have hln : ((ks.take k).map fun e => lastP e.path).length = k := by rw [List.length_map, List.length_take]; omega
      rw [hln] at hv
      subst hv
      by_cases hlt : k < ks.length
      · obtain ⟨b, off, e, x, cc, rfl, hb, he, c0, c1, c2, c3, hr⟩ := (RK.out.below HW.out).at hlt
        obtain ⟨hpf, hpl⟩ := HKM.out e (List.mem_of_getElem? he)
        have HX := hide he
        have HLA := hide (show lastT (str e.path).data.toList = lastP e.path from by rw [str_data]; exact lastT_right hpf)
        clear he hr hpf
        have BA := hide (below_alloc wr (.cells #[.int .i64 e.size, .slice x e.chunks.length cc, .string (str e.path), .int .i64 e.kind] 64))
        go_wp2_with fail
        refine (implLastOf_any (str e.path) _ (by rw [str_size]; omega)).mono ?_
        rintro r w5 ⟨rfl, hb5⟩
        rw [HLA.out]
        generalize faultP (str e.path).data.toList = FP
        have hfd : ∀ (w : World), (Instr.field 89 (.agg #[.int .i64 FP, .string (str (lastP e.path))]) 1).run Tryz.prog w = .ok (.string (str (lastP e.path))) w := fun _ => by kernel_rfl
        have HW5 := hide (below_next HW.out (below_next BA.out hb5))
        have O5 : Hid (w5.ownsRow w4.heap.size 9 1 (.slice lv k lc) k (((ks.take k).map fun e => lastP e.path).map vS)) := by have := HO.out.below (below_next BA.out hb5); unfold OwnS at this; rw [hln] at this; exact this
        have hsz5 := HW5.out.size
        have HLn := hide hln
        have hm1 : k + 1 ≤ maxLen := by unfold maxLen; omega
        have hm2 : (k + 1) * 16 ≤ 140737488355328 := by omega
        clear hb5 hln HO HW BA c0 c1 c2 c3
        go_wp2_with (at_builtin; refine wpList_append_one rfl (.tmp 26) (.tmp 31) 26 rfl w4.heap.size 9 i1 (.string ⟨#[]⟩) 1 16 Tryz.underlying26 ki kz0 kz1 kz2 rfl (by decide) _ _ _ rfl O5.out rfl rfl (by intro u hu; simp at hu; subst hu; rfl) hm1 hm2 hsz5 ?_; intro v' w6 hown6 hkept; have O6 := hide (show OwnS w4.heap.size w6 v' (((ks.take k).map fun e => lastP e.path) ++ [lastP e.path]) from OwnS.snoc (by rw [HLn.out]; exact hown6) rfl); have K6 := hide hkept; clear hown6 hkept)
        go_roundw
        case rel =>
          refine ⟨k + 1, by omega, by go_num, hide ?_, hide ?_⟩
          · rw [take_snoc_at HX.out, List.map_append]; exact O6.out
          · exact Kept.below_own HW5.out hsz5 O5.out K6.out
        case measure => simp [intOf]; omega
      · have hke : k = ks.length := by omega
        have HO2 : Hid (OwnS w4.heap.size wr (.slice lv k lc) (namesE es (topQ p))) := by have := HO.out; rw [List.take_of_length_le (by omega)] at this; rw [HN.out]; exact this
        have HLn := hide (show k = (namesE es (topQ p)).length from by rw [HN.out, List.length_map]; exact hke)
        have BB5 := hide (below_next BB4.out HW.out)
        obtain ⟨⟨t0, t1⟩, t2, t3⟩ := X1.out.below BB5.out
        have B5 := hide (below_next B1.out BB5.out)
        clear hke hln
        go_wp2_with fail
        exact bodyPost_ret (v := .agg #[.int .i64 0, .slice lv k lc]) (by simp [results, Tryz.results18, go_sem, t0, t1]) rfl (by rw [HCC.out.1, HCC.out.2]; exact ResN.of (by omega) (Nat.le_refl _) HLn.out HO2.out B5.out)
  · have HCC := hide (show listL es p = [] from by rw [listL, if_neg hz])
    generalize listC es p = F at *
    have hz2 : (F != 0) = true := by simp; exact hz
    clear hz
    obtain ⟨⟨t0, t1⟩, t2, t3⟩ := X1.out
    go_wp2_with fail
    exact bodyPost_ret (v := .agg #[.int .i64 F, .slice none 0 0]) (by simp [results, Tryz.results18, go_sem, t0, t1]) rfl (by rw [HCC.out]; exact ResN.bad (Nat.le_refl _) B1.out)

theorem remove_cases {es : List En} {p : Bs} (h : RightT es) (hp : faultP p = 0) : removeC es p = if (es.any fun e => decide (e.path = p)) then (if es.any (inP p) then 1 else 0) else 4 := by
  unfold removeC
  rw [any_find, any_kids h hp]
  cases findE es p with
  | none => simp
  | some e => by_cases hk : kidsE es p = [] <;> simp [hk]

def remRep (es : List En) (p : Bs) : Int := if askT es p = 0 then removeC es p else 0
def remList (es : List En) (p : Bs) : List En := if askT es p = 0 then removeL es p else []
theorem ask_tree {es : List En} {p : Bs} (h : askT es p = 0) : RightT es ∧ faultP p = 0 := by
  unfold askT at h
  by_cases h1 : treFaultP es = 0
  · rw [if_pos h1] at h
    exact ⟨rightT_P.1 h1, h⟩
  · rw [if_neg h1] at h; exact absurd h h1
end Go.Proofs.YtjkmbicedbdifaaGreat
