/-
  The model's HidesBelow.
-/
import Derived.Test.YtjkmbicedbdifaaGreatJ3
namespace Go.Proofs.YtjkmbicedbdifaaGreat
open Go.RowKit Go.Maps
set_option linter.unusedVariables false
attribute [local go_sem ↓] Go.wp_at_zero Go.wp_at_succ

set_option maxRecDepth 100000 in
set_option maxHeartbeats 6400000 in
theorem l8Hides_none (a : Option Addr) (c n : Nat) (es : List En) (p : Bs) (w : World) (h : RdE w a es) (hn : n = es.length) (hl : es.length ≤ 1048576) (hp : faultP p = 0) (hpl : p.length ≤ 1048576) (ha : atE es p = none) :
    Calls Tryz.prog 86 #[.slice a n c, .string (str p)] w fun r w' => r = .returned (.int .i64 (hidN es p)) ∧ Below w.heap.size w w' := by
  subst hn
  have HOV := hide (l8Over_any a c es.length es p w h rfl hl hp hpl)
  have HAT : Hid (∀ w', Below w.heap.size w w' → Calls Tryz.prog 72 #[.slice a es.length c, .string (str p)] w' fun r w2 => r = .returned (.int .i64 (-1)) ∧ w2 = w') := hide (fun w' hb => by have h1 := l4At_any a c es.length es p w' (h.below hb) rfl hl; rw [ha] at h1; exact h1)
  have h0 : p ≠ [] := by intro e; rw [e] at hp; simp [faultP] at hp
  have hs0 : ((str p).toList == []) = false := by rw [str_toList]; simp [h0]
  have hrk := rank_none (find_at_none ha)
  clear h ha h0
  rcases over_cases es (above p) with ho | ho | ho
  · have HZ := hide (show hidN es p = 0 by simp [hidN, ho, hrk])
    rw [ho] at HOV
    clear ho hrk hp
    go_enter Tryz.func86, Tryz.ntmps86
    go_wp2_with fail
    refine HOV.out.mono ?_
    rintro r w1 ⟨rfl, hb1⟩
    have B1 := hide hb1
    clear hb1
    go_wp2_with fail
    refine (HAT.out w1 B1.out).mono ?_
    rintro r w2 ⟨rfl, rfl⟩
    go_wp2_with fail
    go_ret
    exact ⟨by rw [HZ.out]; rfl, B1.out⟩
  · have HZ := hide (show hidN es p = 1 by simp [hidN, ho, hrk])
    rw [ho] at HOV
    clear ho hrk hp
    go_enter Tryz.func86, Tryz.ntmps86
    go_wp2_with fail
    refine HOV.out.mono ?_
    rintro r w1 ⟨rfl, hb1⟩
    have B1 := hide hb1
    clear hb1
    go_wp2_with fail
    refine (HAT.out w1 B1.out).mono ?_
    rintro r w2 ⟨rfl, rfl⟩
    go_wp2_with fail
    go_ret
    exact ⟨by rw [HZ.out]; rfl, B1.out⟩
  · have HZ := hide (show hidN es p = 2 by simp [hidN, ho, hrk])
    rw [ho] at HOV
    clear ho hrk hp
    go_enter Tryz.func86, Tryz.ntmps86
    go_wp2_with fail
    refine HOV.out.mono ?_
    rintro r w1 ⟨rfl, hb1⟩
    have B1 := hide hb1
    clear hb1
    go_wp2_with fail
    refine (HAT.out w1 B1.out).mono ?_
    rintro r w2 ⟨rfl, rfl⟩
    go_wp2_with fail
    go_ret
    exact ⟨by rw [HZ.out]; rfl, B1.out⟩
set_option maxRecDepth 100000 in
set_option maxHeartbeats 12800000 in
theorem l8Hides_some (a : Option Addr) (c n : Nat) (es : List En) (p : Bs) (m : Nat) (w : World) (h : RdE w a es) (hn : n = es.length) (hl : es.length ≤ 1048576) (hRi : Right es) (hp : faultP p = 0) (hpl : p.length ≤ 1048576) (ha : atE es p = some m) :
    Calls Tryz.prog 86 #[.slice a n c, .string (str p)] w fun r w' => r = .returned (.int .i64 (hidN es p)) ∧ Below w.heap.size w w' := by
  subst hn
  have HOV := hide (l8Over_any a c es.length es p w h rfl hl hp hpl)
  have HAT : Hid (∀ w', Below w.heap.size w w' → Calls Tryz.prog 72 #[.slice a es.length c, .string (str p)] w' fun r w2 => r = .returned (.int .i64 m) ∧ w2 = w') := hide (fun w' hb => by have h1 := l4At_any a c es.length es p w' (h.below hb) rfl hl; rw [ha] at h1; exact h1)
  have h0 : p ≠ [] := by intro e; rw [e] at hp; simp [faultP] at hp
  have hs0 : ((str p).toList == []) = false := by rw [str_toList]; simp [h0]
  obtain ⟨e, he, hf⟩ := find_at_some ha
  have hm := atE_lt ha
  obtain ⟨bb, off2, e', x, cc, rfl, hb2, he', c0, c1, c2, c3, hr⟩ := h.at hm
  have : e' = e := Option.some.inj (he'.symm.trans he)
  subst this
  have hkk := ent_kinds (hRi.ent e' (List.mem_of_getElem? he))
  have hk0 : ¬ (m : Int) < 0 := by omega
  have hk2 : (0 : Int) ≤ (m : Int) := by omega
  have hk1 : (m : Int) < (es.length : Int) := by omega
  clear h ha h0 he he' hr c0 c2 c3 hRi
  rcases hkk with hk | hk | hk | hk <;> rcases over_cases es (above p) with ho | ho | ho
  · have HZ := hide (show hidN es p = 2 by simp [hidN, ho, rankE, hf, hk])
    rw [ho] at HOV
    rw [hk] at c1
    clear ho hk hp hf
    go_enter Tryz.func86, Tryz.ntmps86
    go_wp2_with fail
    refine HOV.out.mono ?_
    rintro r w1 ⟨rfl, hb1⟩
    have B1 := hide hb1
    have c1' := (hb1.cell (p := ⟨bb, off2 + m * 4 + 1, none⟩) hb2).trans c1
    clear hb1 c1
    go_wp2_with fail
    refine (HAT.out w1 B1.out).mono ?_
    rintro r w2 ⟨rfl, rfl⟩
    go_wp2_with (go_at_call 93; refine (l4IsDir_any _ _ 1 _ c1').mono ?_; rintro r w3 ⟨rfl, rfl⟩; rw [show dirK 1 = false from rfl])
    go_ret
    exact ⟨by rw [HZ.out]; rfl, B1.out⟩
  · have HZ := hide (show hidN es p = 2 by simp [hidN, ho, rankE, hf, hk])
    rw [ho] at HOV
    rw [hk] at c1
    clear ho hk hp hf
    go_enter Tryz.func86, Tryz.ntmps86
    go_wp2_with fail
    refine HOV.out.mono ?_
    rintro r w1 ⟨rfl, hb1⟩
    have B1 := hide hb1
    have c1' := (hb1.cell (p := ⟨bb, off2 + m * 4 + 1, none⟩) hb2).trans c1
    clear hb1 c1
    go_wp2_with fail
    refine (HAT.out w1 B1.out).mono ?_
    rintro r w2 ⟨rfl, rfl⟩
    go_wp2_with (go_at_call 93; refine (l4IsDir_any _ _ 1 _ c1').mono ?_; rintro r w3 ⟨rfl, rfl⟩; rw [show dirK 1 = false from rfl])
    go_ret
    exact ⟨by rw [HZ.out]; rfl, B1.out⟩
  · have HZ := hide (show hidN es p = 2 by simp [hidN, ho, rankE, hf, hk])
    rw [ho] at HOV
    rw [hk] at c1
    clear ho hk hp hf
    go_enter Tryz.func86, Tryz.ntmps86
    go_wp2_with fail
    refine HOV.out.mono ?_
    rintro r w1 ⟨rfl, hb1⟩
    have B1 := hide hb1
    have c1' := (hb1.cell (p := ⟨bb, off2 + m * 4 + 1, none⟩) hb2).trans c1
    clear hb1 c1
    go_wp2_with fail
    refine (HAT.out w1 B1.out).mono ?_
    rintro r w2 ⟨rfl, rfl⟩
    go_wp2_with (go_at_call 93; refine (l4IsDir_any _ _ 1 _ c1').mono ?_; rintro r w3 ⟨rfl, rfl⟩; rw [show dirK 1 = false from rfl])
    go_ret
    exact ⟨by rw [HZ.out]; rfl, B1.out⟩
  · have HZ := hide (show hidN es p = 0 by simp [hidN, ho, rankE, hf, hk])
    rw [ho] at HOV
    rw [hk] at c1
    clear ho hk hp hf
    go_enter Tryz.func86, Tryz.ntmps86
    go_wp2_with fail
    refine HOV.out.mono ?_
    rintro r w1 ⟨rfl, hb1⟩
    have B1 := hide hb1
    have c1' := (hb1.cell (p := ⟨bb, off2 + m * 4 + 1, none⟩) hb2).trans c1
    clear hb1 c1
    go_wp2_with fail
    refine (HAT.out w1 B1.out).mono ?_
    rintro r w2 ⟨rfl, rfl⟩
    go_wp2_with (go_at_call 93; refine (l4IsDir_any _ _ 2 _ c1').mono ?_; rintro r w3 ⟨rfl, rfl⟩; rw [show dirK 2 = true from rfl])
    go_ret
    exact ⟨by rw [HZ.out]; rfl, B1.out⟩
  · have HZ := hide (show hidN es p = 1 by simp [hidN, ho, rankE, hf, hk])
    rw [ho] at HOV
    rw [hk] at c1
    clear ho hk hp hf
    go_enter Tryz.func86, Tryz.ntmps86
    go_wp2_with fail
    refine HOV.out.mono ?_
    rintro r w1 ⟨rfl, hb1⟩
    have B1 := hide hb1
    have c1' := (hb1.cell (p := ⟨bb, off2 + m * 4 + 1, none⟩) hb2).trans c1
    clear hb1 c1
    go_wp2_with fail
    refine (HAT.out w1 B1.out).mono ?_
    rintro r w2 ⟨rfl, rfl⟩
    go_wp2_with (go_at_call 93; refine (l4IsDir_any _ _ 2 _ c1').mono ?_; rintro r w3 ⟨rfl, rfl⟩; rw [show dirK 2 = true from rfl])
    go_ret
    exact ⟨by rw [HZ.out]; rfl, B1.out⟩
  · have HZ := hide (show hidN es p = 2 by simp [hidN, ho, rankE, hf, hk])
    rw [ho] at HOV
    rw [hk] at c1
    clear ho hk hp hf
    go_enter Tryz.func86, Tryz.ntmps86
    go_wp2_with fail
    refine HOV.out.mono ?_
    rintro r w1 ⟨rfl, hb1⟩
    have B1 := hide hb1
    have c1' := (hb1.cell (p := ⟨bb, off2 + m * 4 + 1, none⟩) hb2).trans c1
    clear hb1 c1
    go_wp2_with fail
    refine (HAT.out w1 B1.out).mono ?_
    rintro r w2 ⟨rfl, rfl⟩
    go_wp2_with (go_at_call 93; refine (l4IsDir_any _ _ 2 _ c1').mono ?_; rintro r w3 ⟨rfl, rfl⟩; rw [show dirK 2 = true from rfl])
    go_ret
    exact ⟨by rw [HZ.out]; rfl, B1.out⟩
  · have HZ := hide (show hidN es p = 2 by simp [hidN, ho, rankE, hf, hk])
    rw [ho] at HOV
    rw [hk] at c1
    clear ho hk hp hf
    go_enter Tryz.func86, Tryz.ntmps86
    go_wp2_with fail
    refine HOV.out.mono ?_
    rintro r w1 ⟨rfl, hb1⟩
    have B1 := hide hb1
    have c1' := (hb1.cell (p := ⟨bb, off2 + m * 4 + 1, none⟩) hb2).trans c1
    clear hb1 c1
    go_wp2_with fail
    refine (HAT.out w1 B1.out).mono ?_
    rintro r w2 ⟨rfl, rfl⟩
    go_wp2_with (go_at_call 93; refine (l4IsDir_any _ _ 3 _ c1').mono ?_; rintro r w3 ⟨rfl, rfl⟩; rw [show dirK 3 = false from rfl])
    go_ret
    exact ⟨by rw [HZ.out]; rfl, B1.out⟩
  · have HZ := hide (show hidN es p = 2 by simp [hidN, ho, rankE, hf, hk])
    rw [ho] at HOV
    rw [hk] at c1
    clear ho hk hp hf
    go_enter Tryz.func86, Tryz.ntmps86
    go_wp2_with fail
    refine HOV.out.mono ?_
    rintro r w1 ⟨rfl, hb1⟩
    have B1 := hide hb1
    have c1' := (hb1.cell (p := ⟨bb, off2 + m * 4 + 1, none⟩) hb2).trans c1
    clear hb1 c1
    go_wp2_with fail
    refine (HAT.out w1 B1.out).mono ?_
    rintro r w2 ⟨rfl, rfl⟩
    go_wp2_with (go_at_call 93; refine (l4IsDir_any _ _ 3 _ c1').mono ?_; rintro r w3 ⟨rfl, rfl⟩; rw [show dirK 3 = false from rfl])
    go_ret
    exact ⟨by rw [HZ.out]; rfl, B1.out⟩
  · have HZ := hide (show hidN es p = 2 by simp [hidN, ho, rankE, hf, hk])
    rw [ho] at HOV
    rw [hk] at c1
    clear ho hk hp hf
    go_enter Tryz.func86, Tryz.ntmps86
    go_wp2_with fail
    refine HOV.out.mono ?_
    rintro r w1 ⟨rfl, hb1⟩
    have B1 := hide hb1
    have c1' := (hb1.cell (p := ⟨bb, off2 + m * 4 + 1, none⟩) hb2).trans c1
    clear hb1 c1
    go_wp2_with fail
    refine (HAT.out w1 B1.out).mono ?_
    rintro r w2 ⟨rfl, rfl⟩
    go_wp2_with (go_at_call 93; refine (l4IsDir_any _ _ 3 _ c1').mono ?_; rintro r w3 ⟨rfl, rfl⟩; rw [show dirK 3 = false from rfl])
    go_ret
    exact ⟨by rw [HZ.out]; rfl, B1.out⟩
  · have HZ := hide (show hidN es p = 1 by simp [hidN, ho, rankE, hf, hk])
    rw [ho] at HOV
    rw [hk] at c1
    clear ho hk hp hf
    go_enter Tryz.func86, Tryz.ntmps86
    go_wp2_with fail
    refine HOV.out.mono ?_
    rintro r w1 ⟨rfl, hb1⟩
    have B1 := hide hb1
    have c1' := (hb1.cell (p := ⟨bb, off2 + m * 4 + 1, none⟩) hb2).trans c1
    clear hb1 c1
    go_wp2_with fail
    refine (HAT.out w1 B1.out).mono ?_
    rintro r w2 ⟨rfl, rfl⟩
    go_wp2_with (go_at_call 93; refine (l4IsDir_any _ _ 4 _ c1').mono ?_; rintro r w3 ⟨rfl, rfl⟩; rw [show dirK 4 = true from rfl])
    go_ret
    exact ⟨by rw [HZ.out]; rfl, B1.out⟩
  · have HZ := hide (show hidN es p = 1 by simp [hidN, ho, rankE, hf, hk])
    rw [ho] at HOV
    rw [hk] at c1
    clear ho hk hp hf
    go_enter Tryz.func86, Tryz.ntmps86
    go_wp2_with fail
    refine HOV.out.mono ?_
    rintro r w1 ⟨rfl, hb1⟩
    have B1 := hide hb1
    have c1' := (hb1.cell (p := ⟨bb, off2 + m * 4 + 1, none⟩) hb2).trans c1
    clear hb1 c1
    go_wp2_with fail
    refine (HAT.out w1 B1.out).mono ?_
    rintro r w2 ⟨rfl, rfl⟩
    go_wp2_with (go_at_call 93; refine (l4IsDir_any _ _ 4 _ c1').mono ?_; rintro r w3 ⟨rfl, rfl⟩; rw [show dirK 4 = true from rfl])
    go_ret
    exact ⟨by rw [HZ.out]; rfl, B1.out⟩
  · have HZ := hide (show hidN es p = 2 by simp [hidN, ho, rankE, hf, hk])
    rw [ho] at HOV
    rw [hk] at c1
    clear ho hk hp hf
    go_enter Tryz.func86, Tryz.ntmps86
    go_wp2_with fail
    refine HOV.out.mono ?_
    rintro r w1 ⟨rfl, hb1⟩
    have B1 := hide hb1
    have c1' := (hb1.cell (p := ⟨bb, off2 + m * 4 + 1, none⟩) hb2).trans c1
    clear hb1 c1
    go_wp2_with fail
    refine (HAT.out w1 B1.out).mono ?_
    rintro r w2 ⟨rfl, rfl⟩
    go_wp2_with (go_at_call 93; refine (l4IsDir_any _ _ 4 _ c1').mono ?_; rintro r w3 ⟨rfl, rfl⟩; rw [show dirK 4 = true from rfl])
    go_ret
    exact ⟨by rw [HZ.out]; rfl, B1.out⟩
theorem l8Hides_any (a : Option Addr) (c n : Nat) (es : List En) (p : Bs) (w : World) (h : RdE w a es) (hn : n = es.length) (hl : es.length ≤ 1048576) (hRi : Right es) (hp : faultP p = 0) (hpl : p.length ≤ 1048576) :
    Calls Tryz.prog 86 #[.slice a n c, .string (str p)] w fun r w' => r = .returned (.int .i64 (hidN es p)) ∧ Below w.heap.size w w' := by
  cases ha : atE es p with
  | none => exact l8Hides_none a c n es p w h hn hl hp hpl ha
  | some m => exact l8Hides_some a c n es p m w h hn hl hRi hp hpl ha
end Go.Proofs.YtjkmbicedbdifaaGreat
