/-
  The model's HidesBelow.
-/
import Derived.Test.YtmpojjlpopimfaaGreatOvrM
namespace Go.Proofs.YtmpojjlpopimfaaGreat
open Go.RowKit Go.Maps
set_option linter.unusedVariables false
attribute [local go_sem ↓] Go.wp_at_zero Go.wp_at_succ

set_option maxRecDepth 100000 in
set_option maxHeartbeats 6400000 in
theorem l8Hides_none (a : Option Addr) (c n : Nat) (es : List En) (p : Bs) (w : World) (h : RdE w a es) (hn : n = es.length) (hl : es.length ≤ 1048576) (hp : faultP p = 0) (hpl : p.length ≤ 1048576) (ha : atE es p = none) :
    Calls Tryz.prog 43 #[.slice a n c, .string (str p)] w fun r w' => r = .returned (.int .i64 (hidN es p)) ∧ Below w.heap.size w w' := by
  subst hn
  have HOV := hide (l8Over_any a c es.length es p w h rfl hl hp hpl)
  have HAT : Hid (∀ w', Below w.heap.size w w' → Calls Tryz.prog 100 #[.slice a es.length c, .string (str p)] w' fun r w2 => r = .returned (.int .i64 (-1)) ∧ w2 = w') := hide (fun w' hb => by have h1 := l4At_any a c es.length es p w' (h.below hb) rfl hl; rw [ha] at h1; exact h1)
  have h0 : p ≠ [] := by intro e; rw [e] at hp; simp [faultP] at hp
  have hs0 : ((str p).toList == []) = false := by rw [str_toList]; simp [h0]
  have hrk := rank_none (find_at_none ha)
  clear h ha h0
  rcases over_cases es (above p) with ho | ho | ho
  · have HZ := hide (show hidN es p = 0 by simp [hidN, ho, hrk])
    rw [ho] at HOV
    clear ho hrk hp
    go_enter Tryz.func43, Tryz.ntmps43
    go_wp2_with fail
    refine HOV.out.mono ?_
    rintro r w1 ⟨rfl, hb1⟩
    have B1 := hide hb1
    clear hb1
    go_wp2_with fail
    refine (HAT.out w1 B1.out).mono ?_
    rintro r w2 ⟨rfl, rfl⟩
    go_wp2_with fail
    go_ret
    exact ⟨by rw [HZ.out]; rfl, B1.out⟩
  · have HZ := hide (show hidN es p = 1 by simp [hidN, ho, hrk])
    rw [ho] at HOV
    clear ho hrk hp
    go_enter Tryz.func43, Tryz.ntmps43
    go_wp2_with fail
    refine HOV.out.mono ?_
    rintro r w1 ⟨rfl, hb1⟩
    have B1 := hide hb1
    clear hb1
    go_wp2_with fail
    refine (HAT.out w1 B1.out).mono ?_
    rintro r w2 ⟨rfl, rfl⟩
    go_wp2_with fail
    go_ret
    exact ⟨by rw [HZ.out]; rfl, B1.out⟩
  · have HZ := hide (show hidN es p = 2 by simp [hidN, ho, hrk])
    rw [ho] at HOV
    clear ho hrk hp
    go_enter Tryz.func43, Tryz.ntmps43
    go_wp2_with fail
    refine HOV.out.mono ?_
    rintro r w1 ⟨rfl, hb1⟩
    have B1 := hide hb1
    clear hb1
    go_wp2_with fail
    refine (HAT.out w1 B1.out).mono ?_
    rintro r w2 ⟨rfl, rfl⟩
    go_wp2_with fail
    go_ret
    exact ⟨by rw [HZ.out]; rfl, B1.out⟩
set_option maxRecDepth 100000 in
set_option maxHeartbeats 12800000 in
theorem l8Hides_some (a : Option Addr) (c n : Nat) (es : List En) (p : Bs) (m : Nat) (w : World) (h : RdE w a es) (hn : n = es.length) (hl : es.length ≤ 1048576) (hRi : Right es) (hp : faultP p = 0) (hpl : p.length ≤ 1048576) (ha : atE es p = some m) :
    Calls Tryz.prog 43 #[.slice a n c, .string (str p)] w fun r w' => r = .returned (.int .i64 (hidN es p)) ∧ Below w.heap.size w w' := by
  subst hn
  have HOV := hide (l8Over_any a c es.length es p w h rfl hl hp hpl)
  have HAT : Hid (∀ w', Below w.heap.size w w' → Calls Tryz.prog 100 #[.slice a es.length c, .string (str p)] w' fun r w2 => r = .returned (.int .i64 m) ∧ w2 = w') := hide (fun w' hb => by have h1 := l4At_any a c es.length es p w' (h.below hb) rfl hl; rw [ha] at h1; exact h1)
  have h0 : p ≠ [] := by intro e; rw [e] at hp; simp [faultP] at hp
  have hs0 : ((str p).toList == []) = false := by rw [str_toList]; simp [h0]
  obtain ⟨e, he, hf⟩ := find_at_some ha
  have hm := atE_lt ha
  obtain ⟨bb, off2, e', x, cc, rfl, hb2, he', c0, c1, c2, c3, hr⟩ := h.at hm
  have : e' = e := Option.some.inj (he'.symm.trans he)
  subst this
  have hkk := ent_kinds (hRi.ent e' (List.mem_of_getElem? he))
  have hk0 : ¬ (m : Int) < 0 := by omega
  have hk2 : (0 : Int) ≤ (m : Int) := by omega
  have hk1 : (m : Int) < (es.length : Int) := by omega
  clear h ha h0 he he' hr c0 c2 c3 hRi
  rcases hkk with hk | hk | hk | hk <;> rcases over_cases es (above p) with ho | ho | ho
  · have HZ := hide (show hidN es p = 2 by simp [hidN, ho, rankE, hf, hk])
    rw [ho] at HOV
    rw [hk] at c1
    clear ho hk hp hf
    go_enter Tryz.func43, Tryz.ntmps43
    go_wp2_with fail
    refine HOV.out.mono ?_
    rintro r w1 ⟨rfl, hb1⟩
    have B1 := hide hb1
    have c1' := (hb1.cell (p := ⟨bb, off2 + m * 4 + 1, none⟩) hb2).trans c1
    clear hb1 c1
    go_wp2_with fail
    refine (HAT.out w1 B1.out).mono ?_
    rintro r w2 ⟨rfl, rfl⟩
    go_wp2_with (go_at_call 101; refine (l4IsDir_any _ _ 1 _ c1').mono ?_; rintro r w3 ⟨rfl, rfl⟩; rw [show dirK 1 = false from rfl])
    go_ret
    exact ⟨by rw [HZ.out]; rfl, B1.out⟩
  · have HZ := hide (show hidN es p = 2 by simp [hidN, ho, rankE, hf, hk])
    rw [ho] at HOV
    rw [hk] at c1
    clear ho hk hp hf
    go_enter Tryz.func43, Tryz.ntmps43
    go_wp2_with fail
    refine HOV.out.mono ?_
    rintro r w1 ⟨rfl, hb1⟩
    have B1 := hide hb1
    have c1' := (hb1.cell (p := ⟨bb, off2 + m * 4 + 1, none⟩) hb2).trans c1
    clear hb1 c1
    go_wp2_with fail
    refine (HAT.out w1 B1.out).mono ?_
    rintro r w2 ⟨rfl, rfl⟩
    go_wp2_with (go_at_call 101; refine (l4IsDir_any _ _ 1 _ c1').mono ?_; rintro r w3 ⟨rfl, rfl⟩; rw [show dirK 1 = false from rfl])
    go_ret
    exact ⟨by rw [HZ.out]; rfl, B1.out⟩
  · have HZ := hide (show hidN es p = 2 by simp [hidN, ho, rankE, hf, hk])
    rw [ho] at HOV
    rw [hk] at c1
    clear ho hk hp hf
    go_enter Tryz.func43, Tryz.ntmps43
    go_wp2_with fail
    refine HOV.out.mono ?_
    rintro r w1 ⟨rfl, hb1⟩
    have B1 := hide hb1
    have c1' := (hb1.cell (p := ⟨bb, off2 + m * 4 + 1, none⟩) hb2).trans c1
    clear hb1 c1
    go_wp2_with fail
    refine (HAT.out w1 B1.out).mono ?_
    rintro r w2 ⟨rfl, rfl⟩
    go_wp2_with (go_at_call 101; refine (l4IsDir_any _ _ 1 _ c1').mono ?_; rintro r w3 ⟨rfl, rfl⟩; rw [show dirK 1 = false from rfl])
    go_ret
    exact ⟨by rw [HZ.out]; rfl, B1.out⟩
  · have HZ := hide (show hidN es p = 0 by simp [hidN, ho, rankE, hf, hk])
    rw [ho] at HOV
    rw [hk] at c1
    clear ho hk hp hf
    go_enter Tryz.func43, Tryz.ntmps43
    go_wp2_with fail
    refine HOV.out.mono ?_
    rintro r w1 ⟨rfl, hb1⟩
    have B1 := hide hb1
    have c1' := (hb1.cell (p := ⟨bb, off2 + m * 4 + 1, none⟩) hb2).trans c1
    clear hb1 c1
    go_wp2_with fail
    refine (HAT.out w1 B1.out).mono ?_
    rintro r w2 ⟨rfl, rfl⟩
    go_wp2_with (go_at_call 101; refine (l4IsDir_any _ _ 2 _ c1').mono ?_; rintro r w3 ⟨rfl, rfl⟩; rw [show dirK 2 = true from rfl])
    go_ret
    exact ⟨by rw [HZ.out]; rfl, B1.out⟩
  · have HZ := hide (show hidN es p = 1 by simp [hidN, ho, rankE, hf, hk])
    rw [ho] at HOV
    rw [hk] at c1
    clear ho hk hp hf
    go_enter Tryz.func43, Tryz.ntmps43
    go_wp2_with fail
    refine HOV.out.mono ?_
    rintro r w1 ⟨rfl, hb1⟩
    have B1 := hide hb1
    have c1' := (hb1.cell (p := ⟨bb, off2 + m * 4 + 1, none⟩) hb2).trans c1
    clear hb1 c1
    go_wp2_with fail
    refine (HAT.out w1 B1.out).mono ?_
    rintro r w2 ⟨rfl, rfl⟩
    go_wp2_with (go_at_call 101; refine (l4IsDir_any _ _ 2 _ c1').mono ?_; rintro r w3 ⟨rfl, rfl⟩; rw [show dirK 2 = true from rfl])
    go_ret
    exact ⟨by rw [HZ.out]; rfl, B1.out⟩
  · have HZ := hide (show hidN es p = 2 by simp [hidN, ho, rankE, hf, hk])
    rw [ho] at HOV
    rw [hk] at c1
    clear ho hk hp hf
    go_enter Tryz.func43, Tryz.ntmps43
    go_wp2_with fail
    refine HOV.out.mono ?_
    rintro r w1 ⟨rfl, hb1⟩
    have B1 := hide hb1
    have c1' := (hb1.cell (p := ⟨bb, off2 + m * 4 + 1, none⟩) hb2).trans c1
    clear hb1 c1
    go_wp2_with fail
    refine (HAT.out w1 B1.out).mono ?_
    rintro r w2 ⟨rfl, rfl⟩
    go_wp2_with (go_at_call 101; refine (l4IsDir_any _ _ 2 _ c1').mono ?_; rintro r w3 ⟨rfl, rfl⟩; rw [show dirK 2 = true from rfl])
    go_ret
    exact ⟨by rw [HZ.out]; rfl, B1.out⟩
  · have HZ := hide (show hidN es p = 2 by simp [hidN, ho, rankE, hf, hk])
    rw [ho] at HOV
    rw [hk] at c1
    clear ho hk hp hf
    go_enter Tryz.func43, Tryz.ntmps43
    go_wp2_with fail
    refine HOV.out.mono ?_
    rintro r w1 ⟨rfl, hb1⟩
    have B1 := hide hb1
    have c1' := (hb1.cell (p := ⟨bb, off2 + m * 4 + 1, none⟩) hb2).trans c1
    clear hb1 c1
    go_wp2_with fail
    refine (HAT.out w1 B1.out).mono ?_
    rintro r w2 ⟨rfl, rfl⟩
    go_wp2_with (go_at_call 101; refine (l4IsDir_any _ _ 3 _ c1').mono ?_; rintro r w3 ⟨rfl, rfl⟩; rw [show dirK 3 = false from rfl])
    go_ret
    exact ⟨by rw [HZ.out]; rfl, B1.out⟩
  · have HZ := hide (show hidN es p = 2 by simp [hidN, ho, rankE, hf, hk])
    rw [ho] at HOV
    rw [hk] at c1
    clear ho hk hp hf
    go_enter Tryz.func43, Tryz.ntmps43
    go_wp2_with fail
    refine HOV.out.mono ?_
    rintro r w1 ⟨rfl, hb1⟩
    have B1 := hide hb1
    have c1' := (hb1.cell (p := ⟨bb, off2 + m * 4 + 1, none⟩) hb2).trans c1
    clear hb1 c1
    go_wp2_with fail
    refine (HAT.out w1 B1.out).mono ?_
    rintro r w2 ⟨rfl, rfl⟩
    go_wp2_with (go_at_call 101; refine (l4IsDir_any _ _ 3 _ c1').mono ?_; rintro r w3 ⟨rfl, rfl⟩; rw [show dirK 3 = false from rfl])
    go_ret
    exact ⟨by rw [HZ.out]; rfl, B1.out⟩
  · have HZ := hide (show hidN es p = 2 by simp [hidN, ho, rankE, hf, hk])
    rw [ho] at HOV
    rw [hk] at c1
    clear ho hk hp hf
    go_enter Tryz.func43, Tryz.ntmps43
    go_wp2_with fail
    refine HOV.out.mono ?_
    rintro r w1 ⟨rfl, hb1⟩
    have B1 := hide hb1
    have c1' := (hb1.cell (p := ⟨bb, off2 + m * 4 + 1, none⟩) hb2).trans c1
    clear hb1 c1
    go_wp2_with fail
    refine (HAT.out w1 B1.out).mono ?_
    rintro r w2 ⟨rfl, rfl⟩
    go_wp2_with (go_at_call 101; refine (l4IsDir_any _ _ 3 _ c1').mono ?_; rintro r w3 ⟨rfl, rfl⟩; rw [show dirK 3 = false from rfl])
    go_ret
    exact ⟨by rw [HZ.out]; rfl, B1.out⟩
  · have HZ := hide (show hidN es p = 1 by simp [hidN, ho, rankE, hf, hk])
    rw [ho] at HOV
    rw [hk] at c1
    clear ho hk hp hf
    go_enter Tryz.func43, Tryz.ntmps43
    go_wp2_with fail
    refine HOV.out.mono ?_
    rintro r w1 ⟨rfl, hb1⟩
    have B1 := hide hb1
    have c1' := (hb1.cell (p := ⟨bb, off2 + m * 4 + 1, none⟩) hb2).trans c1
    clear hb1 c1
    go_wp2_with fail
    refine (HAT.out w1 B1.out).mono ?_
    rintro r w2 ⟨rfl, rfl⟩
    go_wp2_with (go_at_call 101; refine (l4IsDir_any _ _ 4 _ c1').mono ?_; rintro r w3 ⟨rfl, rfl⟩; rw [show dirK 4 = true from rfl])
    go_ret
    exact ⟨by rw [HZ.out]; rfl, B1.out⟩
  · have HZ := hide (show hidN es p = 1 by simp [hidN, ho, rankE, hf, hk])
    rw [ho] at HOV
    rw [hk] at c1
    clear ho hk hp hf
    go_enter Tryz.func43, Tryz.ntmps43
    go_wp2_with fail
    refine HOV.out.mono ?_
    rintro r w1 ⟨rfl, hb1⟩
    have B1 := hide hb1
    have c1' := (hb1.cell (p := ⟨bb, off2 + m * 4 + 1, none⟩) hb2).trans c1
    clear hb1 c1
    go_wp2_with fail
    refine (HAT.out w1 B1.out).mono ?_
    rintro r w2 ⟨rfl, rfl⟩
    go_wp2_with (go_at_call 101; refine (l4IsDir_any _ _ 4 _ c1').mono ?_; rintro r w3 ⟨rfl, rfl⟩; rw [show dirK 4 = true from rfl])
    go_ret
    exact ⟨by rw [HZ.out]; rfl, B1.out⟩
  · have HZ := hide (show hidN es p = 2 by simp [hidN, ho, rankE, hf, hk])
    rw [ho] at HOV
    rw [hk] at c1
    clear ho hk hp hf
    go_enter Tryz.func43, Tryz.ntmps43
    go_wp2_with fail
    refine HOV.out.mono ?_
    rintro r w1 ⟨rfl, hb1⟩
    have B1 := hide hb1
    have c1' := (hb1.cell (p := ⟨bb, off2 + m * 4 + 1, none⟩) hb2).trans c1
    clear hb1 c1
    go_wp2_with fail
    refine (HAT.out w1 B1.out).mono ?_
    rintro r w2 ⟨rfl, rfl⟩
    go_wp2_with (go_at_call 101; refine (l4IsDir_any _ _ 4 _ c1').mono ?_; rintro r w3 ⟨rfl, rfl⟩; rw [show dirK 4 = true from rfl])
    go_ret
    exact ⟨by rw [HZ.out]; rfl, B1.out⟩
theorem l8Hides_any (a : Option Addr) (c n : Nat) (es : List En) (p : Bs) (w : World) (h : RdE w a es) (hn : n = es.length) (hl : es.length ≤ 1048576) (hRi : Right es) (hp : faultP p = 0) (hpl : p.length ≤ 1048576) :
    Calls Tryz.prog 43 #[.slice a n c, .string (str p)] w fun r w' => r = .returned (.int .i64 (hidN es p)) ∧ Below w.heap.size w w' := by
  cases ha : atE es p with
  | none => exact l8Hides_none a c n es p w h hn hl hp hpl ha
  | some m => exact l8Hides_some a c n es p m w h hn hl hRi hp hpl ha
set_option maxRecDepth 100000 in
set_option maxHeartbeats 3200000 in
theorem specHidesBelow_any (a : Option Addr) (c n : Nat) (es : List En) (p : Bs) (w : World) (h : RdE w a es) (hn : n = es.length) (hl : es.length ≤ 1048576) (hs : SmallE es) (hpl : p.length ≤ 1048576) :
    Calls Tryz.prog 10 #[.slice a n c, .string (str p)] w fun r w' => r = .returned (.bool (hidB es p)) ∧ Below w.heap.size w w' := by
  subst hn
  have hsz := str_size p
  have HLF := hide (l4Fault_any a c es.length es w h rfl hl hs)
  have HPF : Hid (∀ w', Calls Tryz.prog 42 #[.string (str p)] w' fun e w2 => e = .returned (.int .i64 (faultP p)) ∧ Below w'.heap.size w' w2) := hide (fun w' => by have h1 := l3Fault_any (str p) w' (by omega); rw [str_data] at h1; exact h1)
  by_cases hz : layFault es = 0
  · have hRi := right_E.1 hz
    by_cases hq : faultP p = 0
    · have HH := hide (fun w' hb => l8Hides_any a c es.length es p w' (h.below hb) rfl hl hRi hq hpl)
      have HZ := hide (show decide (0 < hidN es p) = hidB es p by rw [hidN_pos hRi, hidB_good (askP_of hRi hq)])
      rw [hz] at HLF
      rw [hq] at HPF
      generalize hidN es p = V at *
      clear h hz hq hRi hs
      go_enter Tryz.func10, Tryz.ntmps10
      go_wp2_with fail
      refine HLF.out.mono ?_
      rintro r w1 ⟨rfl, hb1⟩
      have B1 := hide hb1
      clear hb1
      go_wp2_with fail
      refine (HPF.out w1).mono ?_
      rintro r w2 ⟨rfl, hb2⟩
      have B2 := hide (below_next B1.out hb2)
      clear hb2
      go_wp2_with fail
      refine (HH.out w2 B2.out).mono ?_
      rintro r w3 ⟨rfl, hb3⟩
      have B3 := hide (below_next B2.out hb3)
      clear hb3
      go_wp2_with fail
      go_ret
      exact ⟨ret_bool HZ.out, B3.out⟩
    · have HZ := hide (hidB_bad (es := es) (p := p) (fun hk => hq (askP_right hk).2))
      rw [hz] at HLF
      have hq2 : (faultP p == 0) = false := by simpa using hq
      generalize faultP p = F at *
      clear h hz hq hRi hs
      go_enter Tryz.func10, Tryz.ntmps10
      go_wp2_with fail
      refine HLF.out.mono ?_
      rintro r w1 ⟨rfl, hb1⟩
      have B1 := hide hb1
      clear hb1
      go_wp2_with fail
      refine (HPF.out w1).mono ?_
      rintro r w2 ⟨rfl, hb2⟩
      have B2 := hide (below_next B1.out hb2)
      clear hb2
      go_wp2_with fail
      go_ret
      exact ⟨ret_bool HZ.out.symm, B2.out⟩
  · have HZ := hide (hidB_bad (es := es) (p := p) (fun hk => hz (right_E.2 (askP_right hk).1)))
    have hq2 : (layFault es == 0) = false := by simpa using hz
    generalize layFault es = F at *
    clear h hz hs
    go_enter Tryz.func10, Tryz.ntmps10
    go_wp2_with fail
    refine HLF.out.mono ?_
    rintro r w1 ⟨rfl, hb1⟩
    have B1 := hide hb1
    clear hb1
    go_wp2_with fail
    go_ret
    exact ⟨ret_bool HZ.out.symm, B1.out⟩
end Go.Proofs.YtmpojjlpopimfaaGreat
