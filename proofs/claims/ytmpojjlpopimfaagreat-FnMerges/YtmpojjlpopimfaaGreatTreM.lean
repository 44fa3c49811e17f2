/-
  The model's trees: the fault of a tree, the home, the names in a directory, what is written, made and removed.
-/
import Derived.Test.YtmpojjlpopimfaaGreatTreL
import Derived.Test.YtmpojjlpopimfaaGreatJ1
namespace Go.Proofs.YtmpojjlpopimfaaGreat
open Go.RowKit Go.Maps
set_option linter.unusedVariables false
attribute [local go_sem ↓] Go.wp_at_zero Go.wp_at_succ

theorem treFault_many {es : List En} (h : 40 < es.length) : treFault es = 2 := by simp [treFault, h]
theorem treFault_few {es : List En} (h : ¬ 40 < es.length) : es.all (fun e => treeK e.kind) = true → treFault es = layFrom es (prevE es 0) (es.drop 0) := by intro hk; simp [treFault, h, hk, prevE]
theorem treFault_kind {es : List En} (h : ¬ 40 < es.length) : es.all (fun e => treeK e.kind) = false → treFault es = 1 := by intro hk; simp [treFault, h, hk]

set_option maxRecDepth 100000 in
set_option maxHeartbeats 1600000 in
theorem l6Fault_any (a : Option Addr) (c n : Nat) (es : List En) (w : World) (h : RdE w a es) (hn : n = es.length) (hl : es.length ≤ 1048576) (hs : SmallE es) :
    Calls Tryz.prog 55 #[.slice a n c] w fun r w' => r = .returned (.int .i64 (treFault es)) ∧ Below w.heap.size w w' := by
  subst hn
  by_cases hm : 40 < es.length
  · have HE := hide (treFault_many hm)
    have hm2 : (40 : Int) < (es.length : Int) := by omega
    go_enter Tryz.func55, Tryz.ntmps55
    go_wp2_with fail
    go_ret
    exact ⟨ret_int HE.out.symm, Below.refl _ _⟩
  · have HE := hide (treFault_few hm)
    have HE1 := hide (treFault_kind (es := es) hm)
    have hm2 : ¬ (40 : Int) < (es.length : Int) := by omega
    generalize treFault es = F at HE HE1 ⊢
    have HR := hide h
    have HS := hide hs
    clear h hs
    go_enter Tryz.func55, Tryz.ntmps55
    go_wp2_with fail
    go_loopw [3] (fun i wr => ∃ k : Nat, k ≤ es.length ∧ i = .int .i64 k ∧ Hid ((es.take k).all (fun e => treeK e.kind) = true) ∧ Hid (Below w.heap.size w wr)) (fun i _ => es.length - (intOf i).toNat)
    case atStart => exact ⟨0, Nat.zero_le _, rfl, hide (by simp), hide (Below.refl _ _)⟩
    case round =>
      obtain ⟨k, hk, rfl, HKS, HW⟩ := hrel
      have HR1 := hide (HR.out.below HW.out)
      by_cases hlt : k < es.length
      · obtain ⟨b, off, e, x, cc, rfl, hb, he, c0, c1, c2, c3, hr⟩ := HR1.out.at hlt
        have HX := hide he
        clear he hr
        by_cases hk1 : e.kind = 1
        · have hb1 : (e.kind != 1) = false := by simp [hk1]
          have HN := hide (show (es.take (k + 1)).all (fun e => treeK e.kind) = true from by rw [take_snoc_at HX.out]; simp only [List.all_append, HKS.out]; simp [treeK, hk1])
          clear hk1
          go_wp2_with fail
          go_roundw
          case rel => exact ⟨k + 1, by omega, by go_num, HN, HW⟩
          case measure => simp [intOf]; omega
        · have hb1 : (e.kind != 1) = true := by simp [hk1]
          by_cases hk2 : e.kind = 2
          · have hb2 : (e.kind != 2) = false := by simp [hk2]
            have HN := hide (show (es.take (k + 1)).all (fun e => treeK e.kind) = true from by rw [take_snoc_at HX.out]; simp only [List.all_append, HKS.out]; simp [treeK, hk2])
            clear hk1 hk2
            go_wp2_with fail
            go_roundw
            case rel => exact ⟨k + 1, by omega, by go_num, HN, HW⟩
            case measure => simp [intOf]; omega
          · have hb2 : (e.kind != 2) = true := by simp [hk2]
            have HN := hide (show F = 1 from HE1.out (by rw [List.all_eq_false]; exact ⟨e, List.mem_of_getElem? HX.out, by simp [treeK, hk1, hk2]⟩))
            clear hk1 hk2
            go_wp2_with fail
            go_ret
            exact ⟨ret_int HN.out.symm, HW.out⟩
      · have HF0 := hide (HE.out (by have := HKS.out; rwa [List.take_of_length_le (by omega)] at this))
        go_wp2_with fail
        go_loopw [4] (fun i wr => ∃ k : Nat, k ≤ es.length ∧ i = .int .i64 k ∧ Hid (F = layFrom es (prevE es k) (es.drop k)) ∧ Hid (Below w.heap.size w wr)) (fun i _ => es.length - (intOf i).toNat)
        case atStart => exact ⟨0, Nat.zero_le _, rfl, HF0, HW⟩
        case round =>
          obtain ⟨k, hk, rfl, HF, HW⟩ := hrel
          have HR1 := hide (HR.out.below HW.out)
          by_cases hlt : k < es.length
          · obtain ⟨b, off, e, x, cc, rfl, hb, he, c0, c1, c2, c3, hr⟩ := HR1.out.at hlt
            have HX := hide he
            have HRc := hide hr
            have hsm := HS.out e (List.mem_of_getElem? he)
            clear he hr
            by_cases hz : entFault e = 0
            · have hpos := path_pos (entFault_zero hz)
              have HZ := hide hz
              clear hz
              go_wp2_with fail
              refine (specEntryFault_any e _ _ _ _ HRc.out rfl hsm.1 hsm.2).mono ?_
              rintro r w1 ⟨rfl, hb1⟩
              rw [HZ.out]
              have HW1 := hide (below_next HW.out hb1)
              have HR2 := hide (HR1.out.below hb1)
              clear hb1 c0 c1 c2 c3 HW HRc
              obtain ⟨b', off', e', x', cc', hbb, hb', he', c0, c1, c2, c3, hr'⟩ := HR2.out.at hlt
              simp only [Option.some.injEq, Addr.mk.injEq, and_true] at hbb
              obtain ⟨rfl, rfl⟩ := hbb
              have : e' = e := Option.some.inj (he'.symm.trans HX.out)
              subst this
              clear he' hr' c1 c2 c3 HR1
              cases k with
              | zero =>
                have HL := hide (show lowE (prevE es 0) e' = false from rfl)
                simp only [Nat.zero_mul, Nat.add_zero] at c0
                go_wp2_with fail
                go_quiet (fail)
                go_wp2_with fail
                have HW2 := hide (below_drewN HW1.out nq)
                have HR3 := hide (HR2.out.below (below_drewN (Below.refl w1.heap.size w1) nq))
                clear HW1 HR2
                have hw3 : ∀ o, (w1.drewN nq).cell? ⟨b, o, none⟩ = w1.cell? ⟨b, o, none⟩ := fun _ => rfl
                generalize w1.drewN nq = W at *
                have HH := hide (l4Home_any _ c es.length es e'.path W HR3.out rfl (by omega) hpos hsm.1)
                cases hh : homeE es e'.path
                · have HO := hide (layFrom_home HF.out HX.out HZ.out HL.out hh)
                  refine HH.out.mono ?_
                  rintro r w4 ⟨rfl, hb4⟩
                  rw [hh]
                  clear hh
                  have HW3 := hide (below_next HW2.out hb4)
                  clear hb4
                  go_wp2_with fail
                  go_ret
                  exact ⟨ret_int HO.out.symm, HW3.out⟩
                · have HO := hide (layFrom_next HF.out HX.out HZ.out HL.out hh)
                  refine HH.out.mono ?_
                  rintro r w4 ⟨rfl, hb4⟩
                  rw [hh]
                  clear hh
                  have HW3 := hide (below_next HW2.out hb4)
                  clear hb4
                  go_wp2_with fail
                  go_roundw
                  case rel => exact ⟨1, by omega, by go_num, HO, HW3⟩
                  case measure => simp [intOf]; omega
              | succ j =>
                have hg : (0 : Int) < ((j + 1 : Nat) : Int) := by omega
                obtain ⟨b2, off2, e2, x2, cc2, hbb, hb2, he2, d0, d1, d2, d3, hr2⟩ := HR2.out.at (show j < es.length by omega)
                simp only [Option.some.injEq, Addr.mk.injEq, and_true] at hbb
                obtain ⟨rfl, rfl⟩ := hbb
                have HL := hide (show lowE (prevE es (j + 1)) e' = (Op.bytesLess e'.path e2.path || (e'.path == e2.path)) from by simp [prevE, lowE, he2])
                clear he2 d1 d2 d3 hr2
                cases hlow : (Op.bytesLess (str e'.path).toList (str e2.path).toList || ((str e'.path).toList == (str e2.path).toList))
                · have HL2 := hide (show lowE (prevE es (j + 1)) e' = false from by rw [HL.out]; rw [str_toList, str_toList] at hlow; exact hlow)
                  go_wp2_with fail
                  go_quiet (fail)
                  go_wp2_with fail
                  have HW2 := hide (below_drewN HW1.out nq)
                  have HR3 := hide (HR2.out.below (below_drewN (Below.refl w1.heap.size w1) nq))
                  clear HW1 HR2
                  have hw3 : ∀ o, (w1.drewN nq).cell? ⟨b, o, none⟩ = w1.cell? ⟨b, o, none⟩ := fun _ => rfl
                  generalize w1.drewN nq = W at *
                  have HH := hide (l4Home_any _ c es.length es e'.path W HR3.out rfl (by omega) hpos hsm.1)
                  cases hh : homeE es e'.path
                  · have HO := hide (layFrom_home HF.out HX.out HZ.out HL2.out hh)
                    refine HH.out.mono ?_
                    rintro r w4 ⟨rfl, hb4⟩
                    rw [hh]
                    clear hh
                    have HW3 := hide (below_next HW2.out hb4)
                    clear hb4
                    go_wp2_with fail
                    go_ret
                    exact ⟨ret_int HO.out.symm, HW3.out⟩
                  · have HO := hide (layFrom_next HF.out HX.out HZ.out HL2.out hh)
                    refine HH.out.mono ?_
                    rintro r w4 ⟨rfl, hb4⟩
                    rw [hh]
                    clear hh
                    have HW3 := hide (below_next HW2.out hb4)
                    clear hb4
                    go_wp2_with fail
                    go_roundw
                    case rel => exact ⟨j + 1 + 1, by omega, by go_num, HO, HW3⟩
                    case measure => simp [intOf]; omega
                · have HL2 := hide (show lowE (prevE es (j + 1)) e' = true from by rw [HL.out]; rw [str_toList, str_toList] at hlow; exact hlow)
                  have HO := hide (layFrom_low HF.out HX.out HZ.out HL2.out)
                  go_wp2_with fail
                  go_quiet (fail)
                  go_wp2_with fail
                  go_ret
                  exact ⟨ret_int HO.out.symm, below_drewN HW1.out _⟩
            · have HZ := hide (layFrom_bad HF.out HX.out hz)
              have hz2 : (entFault e != 0) = true := by simp; exact hz
              clear hz
              go_wp2_with fail
              refine (specEntryFault_any e _ _ _ _ HRc.out rfl hsm.1 hsm.2).mono ?_
              rintro r w1 ⟨rfl, hb1⟩
              have HW1 := hide (below_next HW.out hb1)
              clear hb1
              go_wp2_with fail
              go_ret
              exact ⟨ret_int HZ.out.symm, HW1.out⟩
          · have HZ := hide (layFrom_end HF.out (by omega))
            go_wp2_with fail
            go_ret
            exact ⟨ret_int HZ.out.symm, HW.out⟩

theorem homeC_at_none {es : List En} {p : Bs} (h : parentP p ≠ []) (ha : atE es (parentP p) = none) : homeC es p = 4 := homeC_none h (by rw [atE_find, ha]; rfl)
theorem find_at {es : List En} {q : Bs} {k : Nat} {e : En} (ha : atE es q = some k) (he : es[k]? = some e) : findE es q = some e := by rw [atE_find, ha]; exact he
set_option maxRecDepth 100000 in
set_option maxHeartbeats 800000 in
theorem l6Home_any (a : Option Addr) (c n : Nat) (es : List En) (p : Bs) (w : World) (h : RdE w a es) (hn : n = es.length) (hl : es.length ≤ 1048576) (h1 : 1 ≤ p.length) (hp : p.length ≤ 1048576) :
    Calls Tryz.prog 169 #[.slice a n c, .string (str p)] w fun r w' => r = .returned (.int .i64 (homeC es p)) ∧ Below w.heap.size w w' := by
  subst hn
  have HR := hide h
  clear h
  have HP := hide (show (aboveN (cutB (str p).data.toList.tail)).getLastD [] = parentP p from by rw [str_data]; rfl)
  by_cases hq : parentP p = []
  · have HE := hide (homeC_top (es := es) hq)
    have hs := (str_empty (parentP p)).trans (decide_eq_true hq)
    clear hq
    go_enter Tryz.func169, Tryz.ntmps169
    go_wp2_with fail
    refine (l3Parent_any _ _ (by rw [str_size]; omega) (by rw [str_size]; omega)).mono ?_
    rintro r w1 ⟨rfl, hb⟩
    rw [HP.out]
    have HB := hide hb
    clear hb
    go_wp2_with fail
    go_ret
    exact ⟨ret_int HE.out.symm, HB.out⟩
  · have hs := (str_empty (parentP p)).trans (decide_eq_false hq)
    cases ha : atE es (parentP p) with
    | none =>
      have HE := hide (homeC_at_none hq ha)
      have HA := hide ha
      clear hq ha
      go_enter Tryz.func169, Tryz.ntmps169
      go_wp2_with fail
      refine (l3Parent_any _ _ (by rw [str_size]; omega) (by rw [str_size]; omega)).mono ?_
      rintro r w1 ⟨rfl, hb⟩
      rw [HP.out]
      have HB := hide hb
      have HR1 := hide (HR.out.below hb)
      clear hb
      go_wp2_with fail
      refine (l4At_any _ _ _ es _ _ HR1.out rfl hl).mono ?_
      rintro r w2 ⟨rfl, rfl⟩
      rw [HA.out]
      simp only [placeI]
      go_wp2_with fail
      go_ret
      exact ⟨ret_int HE.out.symm, HB.out⟩
    | some k =>
      have hk := atE_lt ha
      obtain ⟨e, he⟩ : ∃ e, es[k]? = some e := ⟨es[k], List.getElem?_eq_getElem hk⟩
      have HE : Hid (homeC es p = if e.kind = 1 then 9 else 0) := hide (by simp [homeC, hq, find_at ha he])
      have HA := hide ha
      have HX := hide he
      clear hq ha he
      by_cases hk1 : e.kind = 1
      · have hb1 : (e.kind == 1) = true := by simp [hk1]
        have HE2 := hide (show homeC es p = 9 from by rw [HE.out, if_pos hk1])
        clear hk1
        go_enter Tryz.func169, Tryz.ntmps169
        go_wp2_with fail
        refine (l3Parent_any _ _ (by rw [str_size]; omega) (by rw [str_size]; omega)).mono ?_
        rintro r w1 ⟨rfl, hb⟩
        rw [HP.out]
        have HB := hide hb
        have HR1 := hide (HR.out.below hb)
        clear hb
        go_wp2_with fail
        refine (l4At_any _ _ _ es _ _ HR1.out rfl hl).mono ?_
        rintro r w2 ⟨rfl, rfl⟩
        rw [HA.out]
        simp only [placeI]
        obtain ⟨b, off, e', x, cc, rfl, hbl, he', c0, c1, c2, c3, hr⟩ := HR1.out.at hk
        have : e' = e := Option.some.inj (he'.symm.trans HX.out)
        subst this
        clear he' hr
        go_wp2_with fail
        go_ret
        exact ⟨ret_int HE2.out.symm, HB.out⟩
      · have hb1 : (e.kind == 1) = false := by simp [hk1]
        have HE2 := hide (show homeC es p = 0 from by rw [HE.out, if_neg hk1])
        clear hk1
        go_enter Tryz.func169, Tryz.ntmps169
        go_wp2_with fail
        refine (l3Parent_any _ _ (by rw [str_size]; omega) (by rw [str_size]; omega)).mono ?_
        rintro r w1 ⟨rfl, hb⟩
        rw [HP.out]
        have HB := hide hb
        have HR1 := hide (HR.out.below hb)
        clear hb
        go_wp2_with fail
        refine (l4At_any _ _ _ es _ _ HR1.out rfl hl).mono ?_
        rintro r w2 ⟨rfl, rfl⟩
        rw [HA.out]
        simp only [placeI]
        obtain ⟨b, off, e', x, cc, rfl, hbl, he', c0, c1, c2, c3, hr⟩ := HR1.out.at hk
        have : e' = e := Option.some.inj (he'.symm.trans HX.out)
        subst this
        clear he' hr
        go_wp2_with fail
        go_ret
        exact ⟨ret_int HE2.out.symm, HB.out⟩
end Go.Proofs.YtmpojjlpopimfaaGreat
