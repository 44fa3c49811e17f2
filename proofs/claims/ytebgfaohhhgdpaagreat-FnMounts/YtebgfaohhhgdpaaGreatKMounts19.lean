/-
  Texts put together: OvrN OvrH OvrJ.
-/
import Derived.Test.YtebgfaohhhgdpaaGreatKMounts9
import Derived.Test.YtebgfaohhhgdpaaGreatKMounts17
import Derived.Test.YtebgfaohhhgdpaaGreatKMounts10
import Derived.Test.YtebgfaohhhgdpaaGreatKMounts18
import Derived.Test.YtebgfaohhhgdpaaGreatKMounts12
namespace Go.Proofs.YtebgfaohhhgdpaaGreat
open Go.RowKit Go.Maps
set_option linter.unusedVariables false
attribute [local go_sem ↓] Go.wp_at_zero Go.wp_at_succ

set_option maxRecDepth 100000 in
set_option maxHeartbeats 6400000 in
theorem l8Hides_none (a : Option Addr) (c n : Nat) (es : List En) (p : Bs) (w : World) (h : RdE w a es) (hn : n = es.length) (hl : es.length ≤ 1048576) (hp : faultP p = 0) (hpl : p.length ≤ 1048576) (ha : atE es p = none) :
    Calls Tryz.prog 144 #[.slice a n c, .string (str p)] w fun r w' => r = .returned (.int .i64 (hidN es p)) ∧ Below w.heap.size w w' := by
  subst hn
  have HOV := hide (l8Over_any a c es.length es p w h rfl hl hp hpl)
  have HAT : Hid (∀ w', Below w.heap.size w w' → Calls Tryz.prog 60 #[.slice a es.length c, .string (str p)] w' fun r w2 => r = .returned (.int .i64 (-1)) ∧ w2 = w') := hide (fun w' hb => by have h1 := l4At_any a c es.length es p w' (h.below hb) rfl hl; rw [ha] at h1; exact h1)
  have h0 : p ≠ [] := by intro e; rw [e] at hp; simp [faultP] at hp
  have hs0 : ((str p).toList == []) = false := by rw [str_toList]; simp [h0]
  have hrk := rank_none (find_at_none ha)
  clear h ha h0
  rcases over_cases es (above p) with ho | ho | ho
  · have HZ := hide (show hidN es p = 0 by simp [hidN, ho, hrk])
    rw [ho] at HOV
    clear ho hrk hp
    go_enter Tryz.func144, Tryz.ntmps144
    go_wp2_with fail
    refine HOV.out.mono ?_
    rintro r w1 ⟨rfl, hb1⟩
    have B1 := hide hb1
    clear hb1
    go_wp2_with fail
    refine (HAT.out w1 B1.out).mono ?_
    rintro r w2 ⟨rfl, rfl⟩
    go_wp2_with fail
    go_ret
    exact ⟨by rw [HZ.out]; rfl, B1.out⟩
  · have HZ := hide (show hidN es p = 1 by simp [hidN, ho, hrk])
    rw [ho] at HOV
    clear ho hrk hp
    go_enter Tryz.func144, Tryz.ntmps144
    go_wp2_with fail
    refine HOV.out.mono ?_
    rintro r w1 ⟨rfl, hb1⟩
    have B1 := hide hb1
    clear hb1
    go_wp2_with fail
    refine (HAT.out w1 B1.out).mono ?_
    rintro r w2 ⟨rfl, rfl⟩
    go_wp2_with fail
    go_ret
    exact ⟨by rw [HZ.out]; rfl, B1.out⟩
  · have HZ := hide (show hidN es p = 2 by simp [hidN, ho, hrk])
    rw [ho] at HOV
    clear ho hrk hp
    go_enter Tryz.func144, Tryz.ntmps144
    go_wp2_with fail
    refine HOV.out.mono ?_
    rintro r w1 ⟨rfl, hb1⟩
    have B1 := hide hb1
    clear hb1
    go_wp2_with fail
    refine (HAT.out w1 B1.out).mono ?_
    rintro r w2 ⟨rfl, rfl⟩
    go_wp2_with fail
    go_ret
    exact ⟨by rw [HZ.out]; rfl, B1.out⟩
set_option maxRecDepth 100000 in
set_option maxHeartbeats 12800000 in
theorem l8Hides_some (a : Option Addr) (c n : Nat) (es : List En) (p : Bs) (m : Nat) (w : World) (h : RdE w a es) (hn : n = es.length) (hl : es.length ≤ 1048576) (hRi : Right es) (hp : faultP p = 0) (hpl : p.length ≤ 1048576) (ha : atE es p = some m) :
    Calls Tryz.prog 144 #[.slice a n c, .string (str p)] w fun r w' => r = .returned (.int .i64 (hidN es p)) ∧ Below w.heap.size w w' := by
  subst hn
  have HOV := hide (l8Over_any a c es.length es p w h rfl hl hp hpl)
  have HAT : Hid (∀ w', Below w.heap.size w w' → Calls Tryz.prog 60 #[.slice a es.length c, .string (str p)] w' fun r w2 => r = .returned (.int .i64 m) ∧ w2 = w') := hide (fun w' hb => by have h1 := l4At_any a c es.length es p w' (h.below hb) rfl hl; rw [ha] at h1; exact h1)
  have h0 : p ≠ [] := by intro e; rw [e] at hp; simp [faultP] at hp
  have hs0 : ((str p).toList == []) = false := by rw [str_toList]; simp [h0]
  obtain ⟨e, he, hf⟩ := find_at_some ha
  have hm := atE_lt ha
  obtain ⟨bb, off2, e', x, cc, rfl, hb2, he', c0, c1, c2, c3, hr⟩ := h.at hm
  have : e' = e := Option.some.inj (he'.symm.trans he)
  subst this
  have hkk := ent_kinds (hRi.ent e' (List.mem_of_getElem? he))
  have hk0 : ¬ (m : Int) < 0 := by omega
  have hk2 : (0 : Int) ≤ (m : Int) := by omega
  have hk1 : (m : Int) < (es.length : Int) := by omega
  clear h ha h0 he he' hr c0 c2 c3 hRi
  rcases hkk with hk | hk | hk | hk <;> rcases over_cases es (above p) with ho | ho | ho
  · have HZ := hide (show hidN es p = 2 by simp [hidN, ho, rankE, hf, hk])
    rw [ho] at HOV
    rw [hk] at c1
    clear ho hk hp hf
    go_enter Tryz.func144, Tryz.ntmps144
    go_wp2_with fail
    refine HOV.out.mono ?_
    rintro r w1 ⟨rfl, hb1⟩
    have B1 := hide hb1
    have c1' := (hb1.cell (p := ⟨bb, off2 + m * 4 + 1, none⟩) hb2).trans c1
    clear hb1 c1
    go_wp2_with fail
    refine (HAT.out w1 B1.out).mono ?_
    rintro r w2 ⟨rfl, rfl⟩
    go_wp2_with (go_at_call 115; refine (l4IsDir_any _ _ 1 _ c1').mono ?_; rintro r w3 ⟨rfl, rfl⟩; rw [show dirK 1 = false from rfl])
    go_ret
    exact ⟨by rw [HZ.out]; rfl, B1.out⟩
  · have HZ := hide (show hidN es p = 2 by simp [hidN, ho, rankE, hf, hk])
    rw [ho] at HOV
    rw [hk] at c1
    clear ho hk hp hf
    go_enter Tryz.func144, Tryz.ntmps144
    go_wp2_with fail
    refine HOV.out.mono ?_
    rintro r w1 ⟨rfl, hb1⟩
    have B1 := hide hb1
    have c1' := (hb1.cell (p := ⟨bb, off2 + m * 4 + 1, none⟩) hb2).trans c1
    clear hb1 c1
    go_wp2_with fail
    refine (HAT.out w1 B1.out).mono ?_
    rintro r w2 ⟨rfl, rfl⟩
    go_wp2_with (go_at_call 115; refine (l4IsDir_any _ _ 1 _ c1').mono ?_; rintro r w3 ⟨rfl, rfl⟩; rw [show dirK 1 = false from rfl])
    go_ret
    exact ⟨by rw [HZ.out]; rfl, B1.out⟩
  · have HZ := hide (show hidN es p = 2 by simp [hidN, ho, rankE, hf, hk])
    rw [ho] at HOV
    rw [hk] at c1
    clear ho hk hp hf
    go_enter Tryz.func144, Tryz.ntmps144
    go_wp2_with fail
    refine HOV.out.mono ?_
    rintro r w1 ⟨rfl, hb1⟩
    have B1 := hide hb1
    have c1' := (hb1.cell (p := ⟨bb, off2 + m * 4 + 1, none⟩) hb2).trans c1
    clear hb1 c1
    go_wp2_with fail
    refine (HAT.out w1 B1.out).mono ?_
    rintro r w2 ⟨rfl, rfl⟩
    go_wp2_with (go_at_call 115; refine (l4IsDir_any _ _ 1 _ c1').mono ?_; rintro r w3 ⟨rfl, rfl⟩; rw [show dirK 1 = false from rfl])
    go_ret
    exact ⟨by rw [HZ.out]; rfl, B1.out⟩
  · have HZ := hide (show hidN es p = 0 by simp [hidN, ho, rankE, hf, hk])
    rw [ho] at HOV
    rw [hk] at c1
    clear ho hk hp hf
    go_enter Tryz.func144, Tryz.ntmps144
    go_wp2_with fail
    refine HOV.out.mono ?_
    rintro r w1 ⟨rfl, hb1⟩
    have B1 := hide hb1
    have c1' := (hb1.cell (p := ⟨bb, off2 + m * 4 + 1, none⟩) hb2).trans c1
    clear hb1 c1
    go_wp2_with fail
    refine (HAT.out w1 B1.out).mono ?_
    rintro r w2 ⟨rfl, rfl⟩
    go_wp2_with (go_at_call 115; refine (l4IsDir_any _ _ 2 _ c1').mono ?_; rintro r w3 ⟨rfl, rfl⟩; rw [show dirK 2 = true from rfl])
    go_ret
    exact ⟨by rw [HZ.out]; rfl, B1.out⟩
  · have HZ := hide (show hidN es p = 1 by simp [hidN, ho, rankE, hf, hk])
    rw [ho] at HOV
    rw [hk] at c1
    clear ho hk hp hf
    go_enter Tryz.func144, Tryz.ntmps144
    go_wp2_with fail
    refine HOV.out.mono ?_
    rintro r w1 ⟨rfl, hb1⟩
    have B1 := hide hb1
    have c1' := (hb1.cell (p := ⟨bb, off2 + m * 4 + 1, none⟩) hb2).trans c1
    clear hb1 c1
    go_wp2_with fail
    refine (HAT.out w1 B1.out).mono ?_
    rintro r w2 ⟨rfl, rfl⟩
    go_wp2_with (go_at_call 115; refine (l4IsDir_any _ _ 2 _ c1').mono ?_; rintro r w3 ⟨rfl, rfl⟩; rw [show dirK 2 = true from rfl])
    go_ret
    exact ⟨by rw [HZ.out]; rfl, B1.out⟩
  · have HZ := hide (show hidN es p = 2 by simp [hidN, ho, rankE, hf, hk])
    rw [ho] at HOV
    rw [hk] at c1
    clear ho hk hp hf
    go_enter Tryz.func144, Tryz.ntmps144
    go_wp2_with fail
    refine HOV.out.mono ?_
    rintro r w1 ⟨rfl, hb1⟩
    have B1 := hide hb1
    have c1' := (hb1.cell (p := ⟨bb, off2 + m * 4 + 1, none⟩) hb2).trans c1
    clear hb1 c1
    go_wp2_with fail
    refine (HAT.out w1 B1.out).mono ?_
    rintro r w2 ⟨rfl, rfl⟩
    go_wp2_with (go_at_call 115; refine (l4IsDir_any _ _ 2 _ c1').mono ?_; rintro r w3 ⟨rfl, rfl⟩; rw [show dirK 2 = true from rfl])
    go_ret
    exact ⟨by rw [HZ.out]; rfl, B1.out⟩
  · have HZ := hide (show hidN es p = 2 by simp [hidN, ho, rankE, hf, hk])
    rw [ho] at HOV
    rw [hk] at c1
    clear ho hk hp hf
    go_enter Tryz.func144, Tryz.ntmps144
    go_wp2_with fail
    refine HOV.out.mono ?_
    rintro r w1 ⟨rfl, hb1⟩
    have B1 := hide hb1
    have c1' := (hb1.cell (p := ⟨bb, off2 + m * 4 + 1, none⟩) hb2).trans c1
    clear hb1 c1
    go_wp2_with fail
    refine (HAT.out w1 B1.out).mono ?_
    rintro r w2 ⟨rfl, rfl⟩
    go_wp2_with (go_at_call 115; refine (l4IsDir_any _ _ 3 _ c1').mono ?_; rintro r w3 ⟨rfl, rfl⟩; rw [show dirK 3 = false from rfl])
    go_ret
    exact ⟨by rw [HZ.out]; rfl, B1.out⟩
  · have HZ := hide (show hidN es p = 2 by simp [hidN, ho, rankE, hf, hk])
    rw [ho] at HOV
    rw [hk] at c1
    clear ho hk hp hf
    go_enter Tryz.func144, Tryz.ntmps144
    go_wp2_with fail
    refine HOV.out.mono ?_
    rintro r w1 ⟨rfl, hb1⟩
    have B1 := hide hb1
    have c1' := (hb1.cell (p := ⟨bb, off2 + m * 4 + 1, none⟩) hb2).trans c1
    clear hb1 c1
    go_wp2_with fail
    refine (HAT.out w1 B1.out).mono ?_
    rintro r w2 ⟨rfl, rfl⟩
    go_wp2_with (go_at_call 115; refine (l4IsDir_any _ _ 3 _ c1').mono ?_; rintro r w3 ⟨rfl, rfl⟩; rw [show dirK 3 = false from rfl])
    go_ret
    exact ⟨by rw [HZ.out]; rfl, B1.out⟩
  · have HZ := hide (show hidN es p = 2 by simp [hidN, ho, rankE, hf, hk])
    rw [ho] at HOV
    rw [hk] at c1
    clear ho hk hp hf
    go_enter Tryz.func144, Tryz.ntmps144
    go_wp2_with fail
    refine HOV.out.mono ?_
    rintro r w1 ⟨rfl, hb1⟩
    have B1 := hide hb1
    have c1' := (hb1.cell (p := ⟨bb, off2 + m * 4 + 1, none⟩) hb2).trans c1
    clear hb1 c1
    go_wp2_with fail
    refine (HAT.out w1 B1.out).mono ?_
    rintro r w2 ⟨rfl, rfl⟩
    go_wp2_with (go_at_call 115; refine (l4IsDir_any _ _ 3 _ c1').mono ?_; rintro r w3 ⟨rfl, rfl⟩; rw [show dirK 3 = false from rfl])
    go_ret
    exact ⟨by rw [HZ.out]; rfl, B1.out⟩
  · have HZ := hide (show hidN es p = 1 by simp [hidN, ho, rankE, hf, hk])
    rw [ho] at HOV
    rw [hk] at c1
    clear ho hk hp hf
    go_enter Tryz.func144, Tryz.ntmps144
    go_wp2_with fail
    refine HOV.out.mono ?_
    rintro r w1 ⟨rfl, hb1⟩
    have B1 := hide hb1
    have c1' := (hb1.cell (p := ⟨bb, off2 + m * 4 + 1, none⟩) hb2).trans c1
    clear hb1 c1
    go_wp2_with fail
    refine (HAT.out w1 B1.out).mono ?_
    rintro r w2 ⟨rfl, rfl⟩
    go_wp2_with (go_at_call 115; refine (l4IsDir_any _ _ 4 _ c1').mono ?_; rintro r w3 ⟨rfl, rfl⟩; rw [show dirK 4 = true from rfl])
    go_ret
    exact ⟨by rw [HZ.out]; rfl, B1.out⟩
  · have HZ := hide (show hidN es p = 1 by simp [hidN, ho, rankE, hf, hk])
    rw [ho] at HOV
    rw [hk] at c1
    clear ho hk hp hf
    go_enter Tryz.func144, Tryz.ntmps144
    go_wp2_with fail
    refine HOV.out.mono ?_
    rintro r w1 ⟨rfl, hb1⟩
    have B1 := hide hb1
    have c1' := (hb1.cell (p := ⟨bb, off2 + m * 4 + 1, none⟩) hb2).trans c1
    clear hb1 c1
    go_wp2_with fail
    refine (HAT.out w1 B1.out).mono ?_
    rintro r w2 ⟨rfl, rfl⟩
    go_wp2_with (go_at_call 115; refine (l4IsDir_any _ _ 4 _ c1').mono ?_; rintro r w3 ⟨rfl, rfl⟩; rw [show dirK 4 = true from rfl])
    go_ret
    exact ⟨by rw [HZ.out]; rfl, B1.out⟩
  · have HZ := hide (show hidN es p = 2 by simp [hidN, ho, rankE, hf, hk])
    rw [ho] at HOV
    rw [hk] at c1
    clear ho hk hp hf
    go_enter Tryz.func144, Tryz.ntmps144
    go_wp2_with fail
    refine HOV.out.mono ?_
    rintro r w1 ⟨rfl, hb1⟩
    have B1 := hide hb1
    have c1' := (hb1.cell (p := ⟨bb, off2 + m * 4 + 1, none⟩) hb2).trans c1
    clear hb1 c1
    go_wp2_with fail
    refine (HAT.out w1 B1.out).mono ?_
    rintro r w2 ⟨rfl, rfl⟩
    go_wp2_with (go_at_call 115; refine (l4IsDir_any _ _ 4 _ c1').mono ?_; rintro r w3 ⟨rfl, rfl⟩; rw [show dirK 4 = true from rfl])
    go_ret
    exact ⟨by rw [HZ.out]; rfl, B1.out⟩
theorem l8Hides_any (a : Option Addr) (c n : Nat) (es : List En) (p : Bs) (w : World) (h : RdE w a es) (hn : n = es.length) (hl : es.length ≤ 1048576) (hRi : Right es) (hp : faultP p = 0) (hpl : p.length ≤ 1048576) :
    Calls Tryz.prog 144 #[.slice a n c, .string (str p)] w fun r w' => r = .returned (.int .i64 (hidN es p)) ∧ Below w.heap.size w w' := by
  cases ha : atE es p with
  | none => exact l8Hides_none a c n es p w h hn hl hp hpl ha
  | some m => exact l8Hides_some a c n es p m w h hn hl hRi hp hpl ha
end Go.Proofs.YtebgfaohhhgdpaaGreat

namespace Go.Proofs.YtebgfaohhhgdpaaGreat
open Go.RowKit Go.Maps
set_option linter.unusedVariables false
attribute [local go_sem ↓] Go.wp_at_zero Go.wp_at_succ

theorem over_is_two {es : List En} {ups : List Bs} (h : overN es ups = 2) : ∃ u ∈ ups, rankE es u = 2 := by
  unfold overN at h
  split at h
  · rename_i h2
    obtain ⟨u, hu, hr⟩ := List.any_eq_true.1 h2
    exact ⟨u, hu, of_decide_eq_true hr⟩
  · split at h <;> omega
theorem rank_is_two {es : List En} {u : Bs} (h : rankE es u = 2) : ∃ d, findE es u = some d ∧ (d.kind = 3 ∨ d.kind = 1) := by
  unfold rankE at h
  cases hf : findE es u with
  | none => rw [hf] at h; simp at h
  | some d =>
    rw [hf] at h
    refine ⟨d, rfl, ?_⟩
    by_cases hk : d.kind = 3 ∨ d.kind = 1
    · exact hk
    · simp only [hk, if_false] at h
      split at h <;> omega
theorem over_there {es : List En} (h : Right es) {p : Bs} (hp : faultP p = 0) {e : En} (he : findE es p = some e) : overN es (above p) ≠ 2 := by
  intro h2
  obtain ⟨u, hu, hr⟩ := over_is_two h2
  obtain ⟨d, hd, hk⟩ := rank_is_two hr
  have hb : isBelow p u = true := by simpa [isBelow] using hu
  rw [isBelow_good hp] at hb
  obtain ⟨hpu, hbl⟩ := of_decide_eq_true hb
  obtain ⟨hem, rfl⟩ := find_mem he
  obtain ⟨d', hd', hpd, hk'⟩ := (right_fit.1 h).1.up hpu hem hbl
  have h3 := rise_find h.rise hd'
  rw [hpd, hd] at h3
  cases h3
  simp only [dirK, decide_eq_true_eq] at hk'
  omega
theorem up_over {es : List En} (h : Right es) (p : Bs) : ((above p).any fun u => (findE es u).any fun e => !decide (e.kind = 2)) = decide (overN es (above p) ≠ 0) := by
  rw [Bool.eq_iff_iff, decide_eq_true_iff, over_zero, List.any_eq_true]
  constructor
  · rintro ⟨u, hu, hr⟩
    have : hideAt es u = true := hr
    rw [rank_hide h] at this
    exact ⟨u, hu, of_decide_eq_true this⟩
  · rintro ⟨u, hu, hr⟩
    exact ⟨u, hu, by have : hideAt es u = true := by rw [rank_hide h]; exact decide_eq_true hr
                     exact this⟩
theorem seeL_at {ls : List (List En)} {m : Nat} {es : List En} (h : ls[m]? = some es) (q : Bs) : seeL ls m q = findE es q := by simp [seeL, h]
theorem seen_up {ls : List (List En)} {m : Nat} {es : List En} (h : ls[m]? = some es) (hR : Right es) {p : Bs} (hn : findE es p = none) (ho : overN es (above p) ≠ 0) : seenG (seeL ls) p (m + 1) = none := by
  refine seen_hid (by rw [seeL_at h]; exact hn) ?_
  have := up_over hR p
  rw [decide_eq_true ho] at this
  rw [← this]
  simp only [seeL_at h]
theorem seen_on {ls : List (List En)} {m : Nat} {es : List En} (h : ls[m]? = some es) (hR : Right es) {p : Bs} (hn : findE es p = none) (ho : overN es (above p) = 0) : seenG (seeL ls) p (m + 1) = seenG (seeL ls) p m := by
  refine seen_down (by rw [seeL_at h]; exact hn) ?_
  have := up_over hR p
  rw [decide_eq_false (by omega)] at this
  rw [← this]
  simp only [seeL_at h]

set_option maxRecDepth 100000 in
set_option maxHeartbeats 6400000 in
theorem l8Place_any (a : Option Addr) (c n : Nat) (ls : List (List En)) (p : Bs) (w : World) (h : RdL w a ls) (hn : n = ls.length) (h4 : ls.length ≤ 4) (hR : ∀ es ∈ ls, Right es) (hp : faultP p = 0) (hpl : p.length ≤ 1048576) :
    Calls Tryz.prog 110 #[.slice a n c, .string (str p)] w fun r w' => r = .returned (.int .i64 (placeI (seenL ls p))) ∧ Below w.heap.size w w' := by
  subst hn
  have HR := hide h
  have HRi := hide hR
  have HV0 := hide (show seenL ls p = seenG (seeL ls) p ls.length from seen_over h4)
  have hw1 : IntKind.i64.wrap ((ls.length : Int) - 1) = (ls.length : Int) - 1 := by simp [IntKind.wrap, IntKind.signed, IntKind.bits]; omega
  clear h hR
  generalize hV : seenL ls p = V at *
  clear hV
  go_enter Tryz.func110, Tryz.ntmps110
  go_wp2_with fail
  go_loopw [5] (fun i wr => ∃ k : Nat, k ≤ ls.length ∧ i = .int .i64 ((k : Int) - 1) ∧ Hid (V = seenG (seeL ls) p k) ∧ Hid (Below w.heap.size w wr)) (fun i _ => (intOf i + 1).toNat)
  case atStart => exact ⟨ls.length, Nat.le_refl _, rfl, HV0, hide (Below.refl _ _)⟩
  case round =>
    obtain ⟨k, hk, hi, HV, HW⟩ := hrel
    cases k with
    | zero =>
      rw [show ((0 : Nat) : Int) - 1 = -1 from rfl] at hi
      subst hi
      have HN := hide (show V = none from HV.out)
      go_wp2_with fail
      go_ret
      exact ⟨by rw [HN.out]; rfl, HW.out⟩
    | succ m =>
      rw [show ((m + 1 : Nat) : Int) - 1 = (m : Int) from by omega] at hi
      subst hi
      have hm0 : (0 : Int) ≤ (m : Int) := by omega
      have hm1 : (m : Int) < (ls.length : Int) := by omega
      have hm2 : IntKind.i64.wrap ((m : Int) - 1) = (m : Int) - 1 := by simp [IntKind.wrap, IntKind.signed, IntKind.bits]; omega
      obtain ⟨b, off, es, x, cc, rfl, hb, he, c0, hr⟩ := (HR.out.below HW.out).at (k := m) (by omega)
      have hRi := HRi.out es (List.mem_of_getElem? he)
      have hel := hRi.len
      have HX := hide he
      have HRI := hide hRi
      have HOV := hide (l8Over_any x cc es.length es p wr hr rfl (by omega) hp hpl)
      have HAT : Hid (∀ w', Below wr.heap.size wr w' → Calls Tryz.prog 60 #[.slice x es.length cc, .string (str p)] w' fun r w2 => r = .returned (.int .i64 (placeI (atE es p))) ∧ w2 = w') := hide (fun w' hb' => l4At_any x cc es.length es p w' (hr.below hb') rfl (by omega))
      have HRE := hide hr
      have KC : Hid (∀ w', Below wr.heap.size wr w' → w'.cell? ⟨b, off + m, none⟩ = some (.slice x es.length cc)) := hide (fun w' hb' => (hb'.cell (p := ⟨b, off + m, none⟩) hb).trans c0)
      clear he hRi hr
      cases ha : atE es p with
      | none =>
        have hf := find_at_none ha
        rw [ha] at HAT
        have e1 : placeI none = -1 := rfl
        rw [e1] at HAT
        clear ha e1
        rcases over_cases es (above p) with ho | ho | ho
        · have HN := hide (HV.out.trans (seen_on HX.out HRI.out hf ho))
          rw [ho] at HOV
          clear hf ho
          go_wp2_with fail
          refine HOV.out.mono ?_
          rintro r w1 ⟨rfl, hb1⟩
          have B1 := hide hb1
          have c1 := KC.out w1 hb1
          clear hb1 c0
          go_wp2_with fail
          refine (HAT.out w1 B1.out).mono ?_
          rintro r w2 ⟨rfl, rfl⟩
          go_wp2_with fail
          go_roundw
          case rel => exact ⟨m, by omega, rfl, HN, hide (below_next HW.out B1.out)⟩
          case measure => simp [intOf]
        · have HN := hide (HV.out.trans (seen_up HX.out HRI.out hf (by omega)))
          rw [ho] at HOV
          clear hf ho
          go_wp2_with fail
          refine HOV.out.mono ?_
          rintro r w1 ⟨rfl, hb1⟩
          have B1 := hide hb1
          have c1 := KC.out w1 hb1
          clear hb1 c0
          go_wp2_with fail
          refine (HAT.out w1 B1.out).mono ?_
          rintro r w2 ⟨rfl, rfl⟩
          go_wp2_with fail
          go_ret
          exact ⟨by rw [HN.out]; rfl, below_next HW.out B1.out⟩
        · have HN := hide (HV.out.trans (seen_up HX.out HRI.out hf (by omega)))
          rw [ho] at HOV
          clear hf ho
          go_wp2_with fail
          refine HOV.out.mono ?_
          rintro r w1 ⟨rfl, hb1⟩
          have B1 := hide hb1
          clear hb1 c0
          go_wp2_with fail
          go_ret
          exact ⟨by rw [HN.out]; rfl, below_next HW.out B1.out⟩
      | some q =>
        obtain ⟨e, he, hf⟩ := find_at_some ha
        have hq := atE_lt ha
        have hno := over_there HRI.out hp hf
        have HHit := hide (HV.out.trans (seen_hit (by rw [seeL_at HX.out]; exact hf)))
        rw [ha] at HAT
        have e1 : placeI (some q) = (q : Int) := rfl
        rw [e1] at HAT
        have hq0 : (0 : Int) ≤ (q : Int) := by omega
        have hq1 : (q : Int) < (es.length : Int) := by omega
        obtain ⟨bb, off2, e', x', cc', rfl, hb2, he', z0, z1, z2, z3, hr'⟩ := HRE.out.at hq
        have : e' = e := Option.some.inj (he'.symm.trans he)
        subst this
        have KZ : Hid (∀ w', Below wr.heap.size wr w' → w'.cell? ⟨bb, off2 + q * 4 + 1, none⟩ = some (.int .i64 e'.kind)) := hide (fun w' hb' => (hb'.cell (p := ⟨bb, off2 + q * 4 + 1, none⟩) hb2).trans z1)
        have h2 : (overN es (above p) == 2) = false := by simpa using hno
        generalize overN es (above p) = O at *
        clear ha e1 he he' hr' z0 z1 z2 z3 hno hf
        by_cases h3 : e'.kind = 3
        · rw [if_pos h3] at HHit
          have h3' : (e'.kind == 3) = true := by simpa using h3
          clear h3
          go_wp2_with fail
          refine HOV.out.mono ?_
          rintro r w1 ⟨rfl, hb1⟩
          have B1 := hide hb1
          have c1 := KC.out w1 hb1
          have z1 := KZ.out w1 hb1
          clear hb1 c0
          go_wp2_with fail
          refine (HAT.out w1 B1.out).mono ?_
          rintro r w2 ⟨rfl, rfl⟩
          go_wp2_with fail
          go_ret
          exact ⟨by rw [HHit.out]; rfl, below_next HW.out B1.out⟩
        · rw [if_neg h3] at HHit
          have h3' : (e'.kind == 3) = false := by simpa using h3
          clear h3
          go_wp2_with fail
          refine HOV.out.mono ?_
          rintro r w1 ⟨rfl, hb1⟩
          have B1 := hide hb1
          have c1 := KC.out w1 hb1
          have z1 := KZ.out w1 hb1
          clear hb1 c0
          go_wp2_with fail
          refine (HAT.out w1 B1.out).mono ?_
          rintro r w2 ⟨rfl, rfl⟩
          go_wp2_with fail
          go_ret
          exact ⟨by rw [HHit.out]; rfl, below_next HW.out B1.out⟩
set_option maxRecDepth 100000 in
set_option maxHeartbeats 1600000 in
theorem l8In_any (a : Option Addr) (c n : Nat) (ps : List Bs) (p : Bs) (w : World) (h : ReadsS w a ps) (hn : n = ps.length) (hl : ps.length ≤ 1048576) :
    Calls Tryz.prog 119 #[.slice a n c, .string (str p)] w fun r w' => r = .returned (.bool (decide (p ∈ ps))) ∧ w' = w := by
  subst hn
  have HR := hide h
  clear h
  go_enter Tryz.func119, Tryz.ntmps119
  go_wp2_with fail
  go_loopw [5] (fun i wr => ∃ k : Nat, k ≤ ps.length ∧ i = .int .i64 k ∧ wr = w ∧ Hid (p ∉ ps.take k)) (fun i _ => ps.length - (intOf i).toNat)
  case atStart => exact ⟨0, Nat.zero_le _, rfl, rfl, hide (by simp)⟩
  case round =>
    obtain ⟨k, hk, rfl, rfl, HN⟩ := hrel
    by_cases hlt : k < ps.length
    · obtain ⟨b, off, q, rfl, hb, he, c0⟩ := HR.out.at hlt
      have hk0 : (0 : Int) ≤ (k : Int) := by omega
      have hk1 : (k : Int) < (ps.length : Int) := by omega
      by_cases hq : q = p
      · have hq2 := str_yes hq
        have HT := hide (show decide (p ∈ ps) = true from decide_eq_true (by rw [← hq]; exact List.mem_of_getElem? he))
        clear hq he
        go_wp2_with fail
        go_ret
        exact ⟨by rw [HT.out]; rfl, rfl⟩
      · have hq2 := str_no hq
        have HT := hide (show p ∉ ps.take (k + 1) from by
          rw [take_at he]
          intro hm
          rcases List.mem_append.1 hm with hm | hm
          · exact HN.out hm
          · simp at hm; exact hq hm.symm)
        clear hq he
        go_wp2_with fail
        go_roundw
        case rel => exact ⟨k + 1, by omega, by go_num, (by first | rfl | trivial), HT⟩
        case measure => simp [intOf]; omega
    · have HT := hide (show decide (p ∈ ps) = false from decide_eq_false (by have := HN.out; rwa [List.take_of_length_le (by omega)] at this))
      go_wp2_with fail
      go_ret
      exact ⟨by rw [HT.out]; rfl, rfl⟩
end Go.Proofs.YtebgfaohhhgdpaaGreat

namespace Go.Proofs.YtebgfaohhhgdpaaGreat
set_option linter.unusedVariables false

theorem snocInd {α : Type} {motive : List α → Prop} (nil : motive []) (snoc : ∀ (l : List α) (x : α), motive l → motive (l ++ [x])) (l : List α) : motive l := by
  have h : ∀ r : List α, motive r.reverse := by
    intro r
    induction r with
    | nil => exact nil
    | cons x r ih => rw [List.reverse_cons]; exact snoc _ _ ih
  have h2 := h l.reverse
  rwa [List.reverse_reverse] at h2
theorem path_last {p : Bs} (h : faultP p = 0) : p = parentP p ++ 47 :: lastP p := by
  obtain ⟨ns, hN, hp, hc, -⟩ := faultP_zero h
  have h1 : lastP p = lastN ns := by unfold lastP; rw [hc]
  have h2 := last_split hN.1
  have h3 : parentP p = joinB ns.dropLast := by
    unfold parentP
    rw [hc]
    by_cases hl : 1 < ns.length
    · rw [parent_take hl, List.dropLast_eq_take]
    · have h4 : aboveN ns = [] := List.eq_nil_of_length_eq_zero (by rw [aboveN_length]; omega)
      have h5 : ns.dropLast = [] := List.eq_nil_of_length_eq_zero (by rw [List.length_dropLast]; omega)
      rw [h4, h5]; rfl
  rw [h1, h3]
  have h6 : joinB ns = joinB ns.dropLast ++ 47 :: lastN ns := by
    conv => lhs; rw [h2]
    rw [join_append]; simp [joinB]
  rw [← h6]; exact hp
theorem bl_pre : ∀ (q a b : Bs), Op.bytesLess (q ++ a) (q ++ b) = Op.bytesLess a b
  | [], a, b => rfl
  | c :: q, a, b => by
    have := bl_pre q a b
    simp [Op.bytesLess, this]
def cpB (q x : Bs) : Bs := q ++ 47 :: x
theorem bl_kid (q a b : Bs) : Op.bytesLess (cpB q a) (cpB q b) = Op.bytesLess a b := by
  unfold cpB
  rw [bl_pre]
  simp [Op.bytesLess]
theorem kid_path {e : En} {q : Bs} (h : faultP e.path = 0) (hq : parentP e.path = q) : e.path = cpB q (lastP e.path) := by
  have := path_last h
  rw [hq] at this
  exact this
def RiseS (ns : List Bs) : Prop := ns.Pairwise fun x y => Op.bytesLess x y = true
def mkE (n : Bs) : En := ⟨n, 0, 0, []⟩
theorem riseS_mk {ns : List Bs} : Rise (ns.map mkE) ↔ RiseS ns := by
  unfold Rise RiseS
  rw [List.pairwise_map]
  exact Iff.rfl
theorem map_mk_path (ns : List Bs) : (ns.map mkE).map En.path = ns := by
  rw [List.map_map]
  conv => rhs; rw [← List.map_id ns]
  exact List.map_congr_left fun _ _ => rfl
theorem riseS_ext {a b : List Bs} (ha : RiseS a) (hb : RiseS b) (h : ∀ x, x ∈ a ↔ x ∈ b) : a = b := by
  have h1 : a.map mkE = b.map mkE := by
    have hra := riseS_mk.2 ha
    have hrb := riseS_mk.2 hb
    refine rise_ext hra hrb (fun q => ?_)
    by_cases hq : q ∈ a
    · have e1 := rise_find hra (List.mem_map.2 ⟨q, hq, rfl⟩)
      have e2 := rise_find hrb (List.mem_map.2 ⟨q, (h q).1 hq, rfl⟩)
      exact e1.trans e2.symm
    · have hq2 : q ∉ b := fun hb => hq ((h q).2 hb)
      rw [find_none (fun x hx e => ?_), find_none (fun x hx e => ?_)]
      · obtain ⟨y, hy, rfl⟩ := List.mem_map.1 hx
        exact hq2 (by rw [← e]; exact hy)
      · obtain ⟨y, hy, rfl⟩ := List.mem_map.1 hx
        exact hq (by rw [← e]; exact hy)
  rw [← map_mk_path a, ← map_mk_path b, h1]
theorem putS_mk (ps : List Bs) (p : Bs) : (putS ps p).map mkE = putAt (ps.map mkE) (mkE p) := by
  have h1 : lowN (ps.map mkE) p = lowS ps p := by
    unfold lowN lowS
    rw [List.takeWhile_map, List.length_map]
    rfl
  unfold putS putAt
  rw [show (mkE p).path = p from rfl, h1]
  simp
theorem mem_putS {ps : List Bs} {p x : Bs} : x ∈ putS ps p ↔ x = p ∨ x ∈ ps := by
  have h1 : mkE x ∈ (putS ps p).map mkE ↔ x ∈ putS ps p := by
    constructor
    · intro h
      obtain ⟨y, hy, he⟩ := List.mem_map.1 h
      have : y = x := congrArg En.path he
      rw [← this]; exact hy
    · exact fun h => List.mem_map.2 ⟨x, h, rfl⟩
  rw [← h1, putS_mk, mem_putAt]
  constructor
  · rintro (h | h)
    · exact .inl (congrArg En.path h)
    · obtain ⟨y, hy, he⟩ := List.mem_map.1 h
      have : y = x := congrArg En.path he
      exact .inr (by rw [← this]; exact hy)
  · rintro (h | h)
    · exact .inl (by rw [h])
    · exact .inr (List.mem_map.2 ⟨x, h, rfl⟩)
theorem riseS_put {ps : List Bs} {p : Bs} (h : RiseS ps) (hn : p ∉ ps) : RiseS (putS ps p) := by
  rw [← riseS_mk, putS_mk]
  refine rise_putAt (riseS_mk.2 h) (fun x hx e => ?_)
  obtain ⟨y, hy, rfl⟩ := List.mem_map.1 hx
  have : y = p := e
  exact hn (by rw [← this]; exact hy)
theorem names_rise {T : List En} (h : Fit T) (q : Bs) : RiseS (namesE T q) := by
  unfold RiseS namesE
  rw [List.pairwise_map]
  have h1 : (kidsE T q).Pairwise (fun x y => Op.bytesLess x.path y.path = true) := List.Pairwise.filter _ h.rise
  refine h1.imp_of_mem (fun {a b} ha hb hab => ?_)
  have ha' := List.mem_filter.1 ha
  have hb' := List.mem_filter.1 hb
  rw [kid_path (h.path ha'.1) (of_decide_eq_true ha'.2), kid_path (h.path hb'.1) (of_decide_eq_true hb'.2), bl_kid] at hab
  exact hab

def stepN (s : List Bs × List Bs) (e : En) : List Bs × List Bs :=
  if lastP e.path ∈ s.1 then s else (s.1 ++ [lastP e.path], if e.kind = 3 then s.2 else putS s.2 (lastP e.path))
def runN (D : List En) : List Bs × List Bs := D.foldl stepN ([], [])
theorem runN_snoc (D : List En) (e : En) : runN (D ++ [e]) = stepN (runN D) e := by simp [runN]
theorem runN_says (D : List En) : (∀ x, x ∈ (runN D).1 ↔ ∃ e ∈ D, lastP e.path = x) ∧ (∀ x, x ∈ (runN D).2 ↔ (D.find? fun e => decide (lastP e.path = x)).any (fun e => !decide (e.kind = 3)) = true) ∧ RiseS (runN D).2 ∧ (runN D).1.length ≤ D.length ∧ (runN D).2.length ≤ D.length := by
  induction D using snocInd with
  | nil => exact ⟨fun x => by simp [runN], fun x => by simp [runN], List.Pairwise.nil, Nat.le_refl _, Nat.le_refl _⟩
  | snoc D e ih =>
    obtain ⟨h1, h2, h3, h4, h5⟩ := ih
    rw [runN_snoc]
    unfold stepN
    by_cases hm : lastP e.path ∈ (runN D).1
    · rw [if_pos hm]
      obtain ⟨d, hd, hdl⟩ := (h1 _).1 hm
      refine ⟨fun x => ?_, fun x => ?_, h3, by simp; omega, by simp; omega⟩
      · rw [h1]
        constructor
        · rintro ⟨y, hy, hl⟩; exact ⟨y, by simp [hy], hl⟩
        · rintro ⟨y, hy, hl⟩
          rcases List.mem_append.1 hy with hy | hy
          · exact ⟨y, hy, hl⟩
          · simp at hy; subst hy; exact ⟨d, hd, by rw [hdl, hl]⟩
      · rw [h2, List.find?_append]
        by_cases hx : lastP e.path = x
        · have : (D.find? fun e => decide (lastP e.path = x)).isSome = true := by
            rw [List.find?_isSome]
            exact ⟨d, hd, decide_eq_true (by rw [hdl, hx])⟩
          obtain ⟨y, hy⟩ := Option.isSome_iff_exists.1 this
          rw [hy]; simp
        · have h7 : [e].find? (fun e => decide (lastP e.path = x)) = none := by simp [hx]
          rw [h7]; simp
    · rw [if_neg hm]
      have hno : D.find? (fun y => decide (lastP y.path = lastP e.path)) = none := by
        rw [List.find?_eq_none]
        intro y hy hq
        exact hm ((h1 _).2 ⟨y, hy, of_decide_eq_true hq⟩)
      have hno2 : lastP e.path ∉ (runN D).2 := fun hq => by
        rw [h2, hno] at hq; simp at hq
      refine ⟨fun x => ?_, fun x => ?_, ?_, by simp; omega, ?_⟩
      · rw [List.mem_append, h1]
        constructor
        · rintro (⟨y, hy, hl⟩ | hx)
          · exact ⟨y, by simp [hy], hl⟩
          · simp at hx; exact ⟨e, by simp, hx.symm⟩
        · rintro ⟨y, hy, hl⟩
          rcases List.mem_append.1 hy with hy | hy
          · exact .inl ⟨y, hy, hl⟩
          · simp at hy; subst hy; exact .inr (by simp [hl])
      · rw [List.find?_append]
        by_cases hx : lastP e.path = x
        · subst hx
          rw [hno]
          by_cases h3k : e.kind = 3
          · simp only [h3k, if_true]
            have : ¬ lastP e.path ∈ (runN D).2 := hno2
            simp [this, h3k]
          · simp only [h3k, if_false]
            rw [mem_putS]
            simp [h3k]
        · have h7 : [e].find? (fun e => decide (lastP e.path = x)) = none := by simp [hx]
          rw [h7, Option.or_none]
          by_cases h3k : e.kind = 3
          · simp only [h3k, if_true]; exact h2 x
          · simp only [h3k, if_false]
            rw [mem_putS, h2]
            constructor
            · rintro (h8 | h8)
              · exact absurd h8.symm hx
              · exact h8
            · exact .inr
      · by_cases h3k : e.kind = 3
        · simp only [h3k, if_true]; exact h3
        · simp only [h3k, if_false]; exact riseS_put h3 hno2
      · by_cases h3k : e.kind = 3
        · simp only [h3k, if_true]; simp; omega
        · simp only [h3k, if_false]; rw [putS_len]; simp; omega

def hidQ (es : List En) (q : Bs) : Int := if q = [] then 0 else hidN es q
def comeD (ls : List (List En)) (q : Bs) : Nat → List En
  | 0 => []
  | n + 1 => match ls[n]? with
    | none => []
    | some es => if hidQ es q = 2 then [] else kidsE es q ++ (if hidQ es q = 1 then [] else comeD ls q n)
theorem come_two {ls : List (List En)} {q : Bs} {n : Nat} {es : List En} (h : ls[n]? = some es) (h2 : hidQ es q = 2) : comeD ls q (n + 1) = [] := by simp [comeD, h, h2]
theorem come_one {ls : List (List En)} {q : Bs} {n : Nat} {es : List En} (h : ls[n]? = some es) (h1 : hidQ es q = 1) : comeD ls q (n + 1) = kidsE es q := by simp [comeD, h, h1]
theorem come_on {ls : List (List En)} {q : Bs} {n : Nat} {es : List En} (h : ls[n]? = some es) (h2 : hidQ es q ≠ 2) (h1 : hidQ es q ≠ 1) : comeD ls q (n + 1) = kidsE es q ++ comeD ls q n := by simp [comeD, h, h1, h2]
theorem come_len {ls : List (List En)} {q : Bs} (h : ∀ es ∈ ls, Right es) : ∀ n, n ≤ ls.length → (comeD ls q n).length ≤ 12 * n
  | 0, _ => by simp [comeD]
  | n + 1, hn => by
    have ih := come_len (q := q) h n (by omega)
    obtain ⟨es, he⟩ : ∃ es, ls[n]? = some es := ⟨_, List.getElem?_eq_getElem (by omega)⟩
    have h12 := (h es (List.mem_of_getElem? he)).len
    have hk : (kidsE es q).length ≤ es.length := List.length_filter_le _ _
    by_cases h2 : hidQ es q = 2
    · rw [come_two he h2]; simp
    · by_cases h1 : hidQ es q = 1
      · rw [come_one he h1]; omega
      · rw [come_on he h2 h1, List.length_append]; omega
theorem come_mem {ls : List (List En)} {q : Bs} : ∀ {n : Nat} {e : En}, e ∈ comeD ls q n → parentP e.path = q ∧ ∃ es ∈ ls, e ∈ es
  | 0, e, h => by simp [comeD] at h
  | n + 1, e, h => by
    cases he : ls[n]? with
    | none => simp [comeD, he] at h
    | some es =>
      have hk : ∀ {x}, x ∈ kidsE es q → parentP x.path = q ∧ ∃ es ∈ ls, x ∈ es := fun hx => ⟨of_decide_eq_true (List.mem_filter.1 hx).2, es, List.mem_of_getElem? he, (List.mem_filter.1 hx).1⟩
      by_cases h2 : hidQ es q = 2
      · rw [come_two he h2] at h; simp at h
      · by_cases h1 : hidQ es q = 1
        · rw [come_one he h1] at h; exact hk h
        · rw [come_on he h2 h1] at h
          rcases List.mem_append.1 h with h | h
          · exact hk h
          · exact come_mem h
theorem above_kid {c q : Bs} (hc : faultP c = 0) (hq : parentP c = q) : above c = if q = [] then [] else above q ++ [q] := by
  obtain ⟨ns, hN, hp, hcu, -⟩ := faultP_zero hc
  rw [above_good hc, hcu]
  have hpar : q = (aboveN ns).getLastD [] := by rw [← hq]; unfold parentP; rw [hcu]
  by_cases h0 : q = []
  · rw [if_pos h0]
    have := parentP_nil.1 (hq.trans h0)
    rw [hcu] at this
    exact this
  · rw [if_neg h0]
    have hl : 1 < ns.length := by
      refine Nat.lt_of_not_le (fun hle => h0 ?_)
      have h4 : aboveN ns = [] := List.eq_nil_of_length_eq_zero (by rw [aboveN_length]; omega)
      rw [hpar, h4]; rfl
    rw [parent_take hl] at hpar
    have hT : Names (ns.take (ns.length - 1)) := names_take hN (by omega)
    have hqf : faultP q = 0 := by rw [hpar]; exact faultP_of hT
    rw [above_good hqf]
    have hcq : cutB q.tail = ns.take (ns.length - 1) := by rw [hpar]; exact cut_of hT
    rw [hcq]
    unfold aboveN
    rw [List.length_take]
    obtain ⟨m, hm⟩ : ∃ m, ns.length = m + 2 := ⟨ns.length - 2, by omega⟩
    have e1 : min (ns.length - 1) ns.length - 1 = m := by omega
    have e2 : ns.length - 1 = m + 1 := by omega
    rw [e1, e2, List.range_succ, List.map_append]
    congr 1
    · refine List.map_congr_left fun k hk => ?_
      have := List.mem_range.1 hk
      rw [List.take_take, Nat.min_eq_left (by omega)]
    · simp [hpar, e2]
theorem over_append (es : List En) (ups : List Bs) (q : Bs) : overN es (ups ++ [q]) = if overN es ups = 2 ∨ rankE es q = 2 then 2 else if overN es ups = 1 ∨ rankE es q = 1 then 1 else 0 := by
  unfold overN
  simp only [List.any_append, List.any_cons, List.any_nil, Bool.or_false]
  by_cases h1 : ups.any (fun u => decide (rankE es u = 2)) = true
  · simp [h1]
  · by_cases h2 : ups.any (fun u => decide (rankE es u = 1)) = true
    · rcases rank_cases es q with h | h | h <;> simp [h1, h2, h]
    · rcases rank_cases es q with h | h | h <;> simp [h1, h2, h]
theorem over_kid {es : List En} {c q : Bs} (hc : faultP c = 0) (hq : parentP c = q) : overN es (above c) = hidQ es q := by
  rw [above_kid hc hq]
  unfold hidQ
  by_cases h0 : q = []
  · rw [if_pos h0, if_pos h0]; simp [overN]
  · rw [if_neg h0, if_neg h0, over_append]; rfl
theorem come_seen {ls : List (List En)} (hR : ∀ es ∈ ls, Right es) {c q : Bs} (hc : faultP c = 0) (hq : parentP c = q) :
    ∀ n, n ≤ ls.length → ((comeD ls q n).find? fun e => decide (lastP e.path = lastP c)).any (fun e => !decide (e.kind = 3)) = (seenG (seeL ls) c n).isSome
  | 0, _ => by simp [comeD, seenG]
  | n + 1, hn => by
    have ih := come_seen hR hc hq n (by omega)
    obtain ⟨es, he⟩ : ∃ es, ls[n]? = some es := ⟨_, List.getElem?_eq_getElem (by omega)⟩
    have hRi := hR es (List.mem_of_getElem? he)
    have hF := (right_fit.1 hRi).1
    have hcp : c = cpB q (lastP c) := by have := path_last hc; rw [hq] at this; exact this
    have hkid : ∀ x ∈ kidsE es q, lastP x.path = lastP c → x.path = c := fun x hx hl => by
      have hx' := List.mem_filter.1 hx
      have := kid_path (hF.path hx'.1) (of_decide_eq_true hx'.2)
      rw [hl, ← hcp] at this
      exact this
    cases hf : findE es c with
    | none =>
      have hno : (kidsE es q).find? (fun e => decide (lastP e.path = lastP c)) = none := by
        rw [List.find?_eq_none]
        intro x hx hl
        have h1 := hkid x hx (of_decide_eq_true hl)
        have h2 := rise_find hRi.rise (List.mem_filter.1 hx).1
        rw [h1, hf] at h2
        cases h2
      by_cases h2 : hidQ es q = 2
      · rw [come_two he h2, seen_up he hRi hf (by rw [over_kid hc hq, h2]; decide)]; rfl
      · by_cases h1 : hidQ es q = 1
        · rw [come_one he h1, hno, seen_up he hRi hf (by rw [over_kid hc hq, h1]; decide)]; rfl
        · have h0 : overN es (above c) = 0 := by
            have := over_kid (es := es) hc hq
            rcases over_cases es (above c) with h | h | h
            · exact h
            · rw [h] at this; exact absurd this.symm h1
            · rw [h] at this; exact absurd this.symm h2
          rw [come_on he h2 h1, List.find?_append, hno, Option.none_or, seen_on he hRi hf h0]
          exact ih
    | some e =>
      obtain ⟨hem, hep⟩ := find_mem hf
      have h2 : hidQ es q ≠ 2 := by rw [← over_kid hc hq]; exact over_there hRi hc hf
      have hek : e ∈ kidsE es q := List.mem_filter.2 ⟨hem, decide_eq_true (by rw [hep]; exact hq)⟩
      have hfi : (kidsE es q).find? (fun x => decide (lastP x.path = lastP c)) = some e := by
        have : ((kidsE es q).find? (fun x => decide (lastP x.path = lastP c))).isSome = true := by
          rw [List.find?_isSome]; exact ⟨e, hek, decide_eq_true (by rw [hep])⟩
        obtain ⟨y, hy⟩ := Option.isSome_iff_exists.1 this
        have hy1 := List.mem_of_find?_eq_some hy
        have hy4 := List.find?_some hy
        have hy2 := hkid y hy1 (by simpa using hy4)
        have hy3 := rise_find hRi.rise (List.mem_filter.1 hy1).1
        rw [hy2, hf] at hy3
        rw [hy, ← hy3]
      have hpre : ∃ r, comeD ls q (n + 1) = kidsE es q ++ r := by
        by_cases h1 : hidQ es q = 1
        · exact ⟨[], by rw [come_one he h1, List.append_nil]⟩
        · exact ⟨_, come_on he h2 h1⟩
      obtain ⟨r, hr⟩ := hpre
      rw [hr, List.find?_append, hfi, seen_hit (by rw [seeL_at he]; exact hf)]
      by_cases h3 : e.kind = 3 <;> simp [h3]
theorem come_names {ls : List (List En)} (hR : ∀ es ∈ ls, Right es) (h4 : ls.length ≤ 4) (q : Bs) : (runN (comeD ls q ls.length)).2 = namesE (allE ls) q := by
  obtain ⟨-, h2, h3, -⟩ := runN_says (comeD ls q ls.length)
  have hF := rights_fit hR
  have hfa := all_fit hF
  refine riseS_ext h3 (names_rise hfa.fit q) (fun x => ?_)
  have key : ∀ c, faultP c = 0 → parentP c = q → lastP c = x → (x ∈ (runN (comeD ls q ls.length)).2 ↔ (findE (allE ls) c).isSome = true) := fun c hc hq hx => by
    rw [h2, ← hx, come_seen hR hc hq ls.length (Nat.le_refl _), all_find hF h4 hc]
    have e1 : seenG (seeL ls) c ls.length = seenL ls c := (seen_over h4).symm
    rw [e1]
    unfold sawE
    cases hs : seenL ls c with
    | none => simp
    | some k =>
      obtain ⟨-, e, he, -⟩ := seen_some (show seenG (seeL ls) c 4 = some k from hs)
      simp [he]
  constructor
  · intro hx
    have hx' := (h2 x).1 hx
    cases hf : (comeD ls q ls.length).find? fun e => decide (lastP e.path = x) with
    | none => rw [hf] at hx'; simp at hx'
    | some e =>
      have hem := List.mem_of_find?_eq_some hf
      have hel0 := List.find?_some hf
      have hel : lastP e.path = x := by simpa using hel0
      obtain ⟨hpq, es, hes, hee⟩ := come_mem hem
      have hpf := (hF es hes).path hee
      obtain ⟨y, hy⟩ := Option.isSome_iff_exists.1 ((key e.path hpf hpq hel).1 hx)
      obtain ⟨hym, hyp⟩ := find_mem hy
      exact List.mem_map.2 ⟨y, List.mem_filter.2 ⟨hym, decide_eq_true (by rw [hyp]; exact hpq)⟩, by rw [hyp]; exact hel⟩
  · intro hx
    obtain ⟨y, hy, hyl⟩ := List.mem_map.1 hx
    obtain ⟨hym, hyp⟩ := List.mem_filter.1 hy
    exact (key y.path (hfa.fit.path hym) (of_decide_eq_true hyp) hyl).2 (by rw [rise_find hfa.fit.rise hym]; rfl)
end Go.Proofs.YtebgfaohhhgdpaaGreat

