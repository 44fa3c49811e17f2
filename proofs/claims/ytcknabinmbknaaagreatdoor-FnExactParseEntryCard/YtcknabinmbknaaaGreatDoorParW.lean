/-
  The law FnExactParseEntry, walked, over the two contracts.
-/
import Derived.Test.YtcknabinmbknaaaGreatDoorEntZ
import Derived.Test.YtcknabinmbknaaaGreatDoorRdH
import Derived.Test.YtcknabinmbknaaaGreatDoorParP
import Derived.ProofKit
namespace Go.Proofs.YtcknabinmbknaaaGreatDoor
open Go.ChangeShapes Go.WideShapes Go.ChangeAt Go.RowKit
set_option linter.unusedVariables false

set_option maxHeartbeats 8000000 in
theorem parseEntry_core (w : World) (s0 : ByteArray) (hl0 : s0.size ≤ 1048576) (q : Int) (es : List En) (hr : es.length ≤ 1048576) (hrC : ∀ e ∈ es, e.chunks.length ≤ 1048576) (hbk : bulkE es ≤ 8388608)
    (hs : (∀  (u : World),  Calls Tryz.prog 17 #[.string s0] u fun e w' => ∃ a' c', e = .returned (.agg #[.int .i64 q, .slice a' es.length c']) ∧ GE u.heap.size w'.heap.size w' (.slice a' es.length c') es ∧ Below u.heap.size u w'))
    (hi : (∀ (u : World), Below w.heap.size w u → Calls Tryz.prog 16 #[.string s0] u fun e w' => ∃ a' c', e = .returned (.agg #[.int .i64 q, .slice a' es.length c']) ∧ GE u.heap.size w'.heap.size w' (.slice a' es.length c') es ∧ Below u.heap.size u w')) :
    Calls Tryz.prog 4 #[.string s0] w fun e w' => e = .returned (.bool true) ∧ Below w.heap.size w w' := by
  have hb0 : ¬ (1048576 : Int) < (s0.size : Int) := by omega
  have HS := hide hs
  have HI := hide hi
  clear hs hi
  have HRC := hide hrC
  clear hrC
  go_enter Tryz.func4, Tryz.ntmps4
  go_wp2_with fail
  refine (HS.out  _ ).mono ?_
  rintro e w1 ⟨ra1, rc1, rfl, rg1, b1⟩
  have n_1 : w.heap.size ≤ w1.heap.size := b1.size
  have B_1 := hide (below_next (Below.refl _ _) b1)
  have Dd_1 := hide rg1
  clear rg1
  clear b1
  go_wp2_with fail
  refine (HI.out _ (below_next B_1.out (below_alloc _ _))).mono ?_
  rintro e w2 ⟨ra2, rc2, rfl, rg2, b2⟩
  have n_2 : w1.heap.size < w2.heap.size := by have := b2.size; simp at this; omega
  have Dd_2 := hide ((Dd_1.out.below (below_alloc _ _)).below b2)
  have T_2 := hide ((Two.new w1 (.int .i64 q) (.slice ra1 es.length rc1) 27).below b2)
  have B_2 := hide (below_next (below_next B_1.out (below_alloc _ _)) b2)
  have Gg_2 := hide rg2
  clear rg2
  clear b2 Dd_1 B_1
  have ns2 : w1.heap.size < w2.heap.size := by omega
  obtain ⟨Tt0, Tt1⟩ := T_2.out
  go_wp2_with fail
  clear Tt0 Tt1
  refine (eqLayerResult_same q ra2 ra1 rc2 rc1 es.length es _ ((Gg_2.out.below (below_alloc _ _))).rd ((Dd_2.out.below (below_alloc _ _))).rd rfl hr HRC.out).mono ?_
  rintro e w3 ⟨rfl, b3⟩
  have n_3 : w2.heap.size < w3.heap.size := by have := b3.size; simp at this; omega
  have Dd_3 := hide ((Dd_2.out.below (below_alloc _ _)).below b3)
  have T_3 := hide ((T_2.out.below (below_alloc _ _)).below b3)
  have Gg_3 := hide ((Gg_2.out.below (below_alloc _ _)).below b3)
  have U_3 := hide ((Two.new w2 (.int .i64 q) (.slice ra2 es.length rc2) 27).below b3)
  have B_3 := hide (below_next (below_next B_2.out (below_alloc _ _)) b3)
  clear b3 Dd_2 T_2 Gg_2 B_2
  obtain ⟨Ut0, Ut1⟩ := U_3.out
  go_wp2_with fail
  clear Ut0 Ut1
  have hTT : w2.heap.size ≤ w3.heap.size := by omega
  have hw1 : (w1.alloc (.cells #[.int .i64 q, .slice ra1 es.length rc1] 27)).heap.size = w1.heap.size + 1 := by simp
  refine (markLayerResult_any q _ _ ra2 rc2 es.length es _ Gg_3.out rfl hr hbk hTT).mono ?_
  rintro e w5 ⟨rfl, gm5, kk5⟩
  have n_5 : w3.heap.size ≤ w5.heap.size := kk5.size
  have Dd_5 := hide (Dd_3.out.kept kk5 (fun b h1 h2 hS => by omega))
  have T_5 := hide (T_3.out.kept kk5 (fun hS => by omega))
  have Gg_5 := hide (gm5)
  have U_5 := hide (U_3.out.kept kk5 (fun hS => by omega))
  have B_5 := hide (B_3.out.trans (kk5.below B_3.out.size (fun k hk hS => by omega)))
  clear kk5 Dd_3 T_3 Gg_3 U_3 B_3
  clear hw1
  have hmv : ¬ ((1 : Int) + (bulkE es : Int)) < 0 := by omega
  obtain ⟨Ut0, Ut1⟩ := U_5.out
  go_wp2_with fail
  clear Ut0 Ut1
  refine (heldLayerResult_any q ra2 rc2 es.length es _ Gg_5.out.rd rfl hr hbk).mono ?_
  rintro e w6 ⟨rfl, b6⟩
  have n_6 : w5.heap.size ≤ w6.heap.size := b6.size
  have Dd_6 := hide (Dd_5.out.below b6)
  have T_6 := hide (T_5.out.below b6)
  have Gg_6 := hide (Gg_5.out.below b6)
  have U_6 := hide (U_5.out.below b6)
  have B_6 := hide (below_next B_5.out b6)
  clear b6 Dd_5 T_5 Gg_5 U_5 B_5
  go_wp2_with fail
  refine (HI.out _ B_6.out).mono ?_
  rintro e w7 ⟨ra7, rc7, rfl, rg7, b7⟩
  have n_7 : w6.heap.size ≤ w7.heap.size := b7.size
  have Dd_7 := hide (Dd_6.out.below b7)
  have T_7 := hide (T_6.out.below b7)
  have Gg_7 := hide (Gg_6.out.below b7)
  have U_7 := hide (U_6.out.below b7)
  have B_7 := hide (below_next B_6.out b7)
  have Hh_7 := hide rg7
  clear rg7
  clear b7 Dd_6 T_6 Gg_6 U_6 B_6
  have nt7 : w1.heap.size < w7.heap.size := by omega
  have nu7 : w2.heap.size < w7.heap.size := by omega
  obtain ⟨Tt0, Tt1⟩ := T_7.out
  go_wp2_with fail
  clear Tt0 Tt1
  refine (eqLayerResult_same q ra7 ra1 rc7 rc1 es.length es _ ((Hh_7.out.below (below_alloc _ _))).rd ((Dd_7.out.below (below_alloc _ _))).rd rfl hr HRC.out).mono ?_
  rintro e w8 ⟨rfl, b8⟩
  have n_8 : w7.heap.size < w8.heap.size := by have := b8.size; simp at this; omega
  have Dd_8 := hide ((Dd_7.out.below (below_alloc _ _)).below b8)
  have T_8 := hide ((T_7.out.below (below_alloc _ _)).below b8)
  have Gg_8 := hide ((Gg_7.out.below (below_alloc _ _)).below b8)
  have U_8 := hide ((U_7.out.below (below_alloc _ _)).below b8)
  have Hh_8 := hide ((Hh_7.out.below (below_alloc _ _)).below b8)
  have Q_8 := hide ((Two.new w7 (.int .i64 q) (.slice ra7 es.length rc7) 27).below b8)
  have B_8 := hide (below_next (below_next B_7.out (below_alloc _ _)) b8)
  clear b8 Dd_7 T_7 Gg_7 U_7 Hh_7 B_7
  obtain ⟨Ut0, Ut1⟩ := U_8.out
  go_wp2_with fail
  clear Ut0 Ut1
  refine (heldLayerResult_any q ra2 rc2 es.length es _ Gg_8.out.rd rfl hr hbk).mono ?_
  rintro e w9 ⟨rfl, b9⟩
  have n_9 : w8.heap.size ≤ w9.heap.size := b9.size
  have Dd_9 := hide (Dd_8.out.below b9)
  have T_9 := hide (T_8.out.below b9)
  have Gg_9 := hide (Gg_8.out.below b9)
  have U_9 := hide (U_8.out.below b9)
  have Hh_9 := hide (Hh_8.out.below b9)
  have Q_9 := hide (Q_8.out.below b9)
  have B_9 := hide (below_next B_8.out b9)
  clear b9 Dd_8 T_8 Gg_8 U_8 Hh_8 Q_8 B_8
  go_wp2_with fail
  go_ret
  exact ⟨rfl, B_9.out⟩

theorem par_small (l : Bs) : (parList l).length ≤ 1 ∧ (∀ e ∈ parList l, e.chunks.length ≤ 3) ∧ bulkE (parList l) ≤ 6 := by
  cases hp : parE l with
  | none => rw [(parE_no hp).2]; simp [bulkE]
  | some x =>
    have hc := (parE_iff.1 hp).1.three
    rw [(parE_so hp).2]
    refine ⟨by simp, fun e he => ?_, ?_⟩
    · simp only [List.mem_singleton] at he; subst he; exact hc
    · simp only [bulkE]; omega
theorem parseEntry_walk (l : Bs) (u : TypeId) (vp : Value) (w : World) (hmax : l.length ≤ 9223372036854775807) (hg : Gl w u vp) (hm : l.length ≤ 1048576 → ∀ w1, Calls Tryz.prog 47 #[.string (str l)] w1 (ResP (parE l) w1)) :
    Calls Tryz.prog 4 #[.string (str l)] w fun e w' => e = .returned (.bool true) ∧ Below w.heap.size w w' := by
  have hsz := str_size l
  by_cases hbig : 1048576 < l.length
  · have hb : (1048576 : Int) < ((str l).size : Int) := by omega
    clear hsz
    go_enter Tryz.func4, Tryz.ntmps4
    go_wp2_with fail
    go_ret
    exact ⟨rfl, Below.refl _ _⟩
  · have hl : l.length ≤ 1048576 := by omega
    obtain ⟨f1, f2, f3⟩ := par_small l
    exact parseEntry_core w (str l) (by omega) (parCode l) (parList l) (by omega) (fun e he => by have := f2 e he; omega) (by omega) (fun v => specParseEntry_of l v (hm hl)) (fun v hv => implParseEntry_any l u vp v hl (hg.below hv))
end Go.Proofs.YtcknabinmbknaaaGreatDoor
