/-
  At every string the law FnExactWordsOf returns true: WordsOf answers as its model does, its list is its own memory. No condition.
-/
import Derived.Test.YtkimblnabbfkfaaKWordsO1
import Derived.Test.YtkimblnabbfkfaaKWordsO2
import Derived.ProofKit
import Derived.OpenShut
import Derived.ShutString
namespace Go.Proofs.Ytkimblnabbfkfaa.wordsOf
open Go.ChangeShapes Go.WideShapes Go.ChangeAt Go.RowKit
open Go.ChangeMaps (open_string shut_string)
set_option linter.unusedVariables false

theorem own : ownKnob Try.prog.godebug = none := by kernel_rfl

theorem blk_own {a : Option Addr} {n c b : Nat} (h : blkOf a b) : (Value.slice a n c).ownBlock = some b := by
  cases a with
  | none => simp [blkOf] at h
  | some x => simpa [blkOf, Value.ownBlock] using h

set_option maxRecDepth 100000 in
set_option maxHeartbeats 4000000 in
theorem core (s : ByteArray) (q : Int) (ps : List Bs) (w : World) (hbig : ¬ (1048576 : Int) < (s.size : Int)) (hr : ps.length ≤ 1048576)
    (hs : ∀ w, Calls Try.prog 4 #[.string s] w fun e w' => ∃ a c, e = .returned (.agg #[.int .i64 q, .slice a ps.length c]) ∧ OwnS w.heap.size w' (.slice a ps.length c) ps ∧ Below w.heap.size w w')
    (hi : ∀ w, Calls Try.prog 5 #[.string s] w fun e w' => ∃ a c, e = .returned (.agg #[.int .i64 q, .slice a ps.length c]) ∧ OwnS w.heap.size w' (.slice a ps.length c) ps ∧ Below w.heap.size w w') :
    Calls Try.prog 3 #[.string s] w fun e w' => e = .returned (.bool true) ∧ Below w.heap.size w w' := by
  have HS := hide hs
  have HI := hide hi
  clear hs hi
  go_enter Try.func3, Try.ntmps3
  go_wp2_with fail
  refine (HS.out _).mono ?_
  rintro e w1 ⟨a1, c1, rfl, o1, b1⟩
  have n1 := b1.size
  have D1 := hide (o1.below (below_alloc w1 (.cells #[.int .i64 q, .slice a1 ps.length c1] 24)))
  have T1 := hide (Two.new w1 (.int .i64 q) (.slice a1 ps.length c1) 24)
  have B1 := hide (below_next b1 (below_alloc w1 (.cells #[.int .i64 q, .slice a1 ps.length c1] 24)))
  have HD1 := hide (fun b (hb : blkOf a1 b) => o1.lt b (blk_own hb))
  clear o1 b1
  go_wp2_with fail
  refine (HI.out _).mono ?_
  rintro e w2 ⟨a2, c2, rfl, o2, b2⟩
  have n2 : w1.heap.size < w2.heap.size := by have := b2.size; simp at this; omega
  have G2 := hide (o2.below (below_alloc w2 (.cells #[.int .i64 q, .slice a2 ps.length c2] 24)))
  have HG2 := hide (fun b (hb : blkOf a2 b) => o2.lt b (blk_own hb))
  have D2 := hide ((D1.out.below b2).below (below_alloc w2 (.cells #[.int .i64 q, .slice a2 ps.length c2] 24)))
  have T2 := hide ((T1.out.below b2).below (below_alloc w2 (.cells #[.int .i64 q, .slice a2 ps.length c2] 24)))
  have T2' := hide (T1.out.below b2)
  have U2 := hide (Two.new w2 (.int .i64 q) (.slice a2 ps.length c2) 24)
  have B2 := hide (below_next (below_next B1.out b2) (below_alloc w2 (.cells #[.int .i64 q, .slice a2 ps.length c2] 24)))
  clear o2 b2 D1 T1 B1
  obtain ⟨t0, t1⟩ := T2'.out
  go_wp2_with fail
  clear t0 t1
  refine (eqNamesResult_same q a2 a1 c2 c1 ps _ G2.out.reads D2.out.reads (by omega)).mono ?_
  rintro e w3 ⟨rfl, b3⟩
  have n3 : w2.heap.size < w3.heap.size := by have := b3.size; simp at this; omega
  have G3 := hide (G2.out.below b3)
  have D3 := hide (D2.out.below b3)
  have T3 := hide (T2.out.below b3)
  have U3 := hide (U2.out.below b3)
  have B3 := hide (below_next B2.out b3)
  clear b3 G2 D2 T2 T2' U2 B2
  obtain ⟨u0, u1⟩ := U3.out
  go_wp2_with fail
  clear u0 u1
  refine (markNamesResult_any q _ a2 c2 ps 1 _ G3.out (by omega) (by omega) (by omega)).mono ?_
  rintro e w4 ⟨rfl, o4, k4⟩
  have n4 : w3.heap.size ≤ w4.heap.size := k4.size
  have hS : ∀ b, blkOf a2 b → w1.heap.size < b ∧ b < w2.heap.size := fun b hb => by have := HG2.out b hb; simp at this; omega
  have G4 := hide o4
  have D4 := hide (D3.out.kept k4 (fun b hb hSb => by
    have h1 := hS b hSb
    have h2 := HD1.out b (by cases a1 with | none => simp [Value.ownBlock] at hb | some x => simpa [blkOf, Value.ownBlock] using hb)
    omega))
  have T4 := hide (T3.out.kept k4 (fun hSb => by have h1 := hS _ hSb; omega))
  have U4 := hide (U3.out.kept k4 (fun hSb => by have h1 := hS _ hSb; omega))
  have B4 := hide (B3.out.trans (k4.below B3.out.size (fun k hk hSb => by have h1 := hS _ hSb; omega)))
  clear o4 k4 G3 D3 T3 U3 B3
  obtain ⟨u0, u1⟩ := U4.out
  go_wp2_with fail
  clear u0 u1
  have hcast : ((1 : Nat) : Int) = 1 := rfl
  refine (heldNamesResult_any q a2 c2 ps.length 1 _ G4.out.reads (by omega) (by omega) (by omega)).mono ?_
  rintro e w5 ⟨rfl, b5⟩
  rw [hcast]
  have n5 : w4.heap.size ≤ w5.heap.size := b5.size
  have G5 := hide (G4.out.below b5)
  have D5 := hide (D4.out.below b5)
  have T5 := hide (T4.out.below b5)
  have U5 := hide (U4.out.below b5)
  have B5 := hide (below_next B4.out b5)
  clear b5 G4 D4 T4 U4 B4 hcast
  have hm0 : ¬ ((1 : Int) + (ps.length : Int)) < 0 := by omega
  go_wp2_with fail
  refine (HI.out _).mono ?_
  rintro e w6 ⟨a6, c6, rfl, o6, b6⟩
  have n6 : w5.heap.size ≤ w6.heap.size := b6.size
  have H6 := hide (o6.below (below_alloc w6 (.cells #[.int .i64 q, .slice a6 ps.length c6] 24)))
  have G6 := hide ((G5.out.below b6).below (below_alloc w6 (.cells #[.int .i64 q, .slice a6 ps.length c6] 24)))
  have D6 := hide ((D5.out.below b6).below (below_alloc w6 (.cells #[.int .i64 q, .slice a6 ps.length c6] 24)))
  have T6 := hide (T5.out.below b6)
  have U6 := hide ((U5.out.below b6).below (below_alloc w6 (.cells #[.int .i64 q, .slice a6 ps.length c6] 24)))
  have B6 := hide (below_next (below_next B5.out b6) (below_alloc w6 (.cells #[.int .i64 q, .slice a6 ps.length c6] 24)))
  clear o6 b6 G5 D5 T5 U5 B5
  obtain ⟨t0, t1⟩ := T6.out
  have m1 : w1.heap.size < w6.heap.size := by omega
  go_wp2_with fail
  clear t0 t1
  refine (eqNamesResult_same q a6 a1 c6 c1 ps _ H6.out.reads D6.out.reads (by omega)).mono ?_
  rintro e w7 ⟨rfl, b7⟩
  have G7 := hide (G6.out.below b7)
  have U7 := hide (U6.out.below b7)
  have B7 := hide (below_next B6.out b7)
  clear b7 G6 D6 T6 U6 B6 H6
  obtain ⟨u0, u1⟩ := U7.out
  go_wp2_with fail
  clear u0 u1
  have hcast : ((1 : Nat) : Int) = 1 := rfl
  refine (heldNamesResult_any q a2 c2 ps.length 1 _ G7.out.reads (by omega) (by omega) (by omega)).mono ?_
  rintro e w8 ⟨rfl, b8⟩
  rw [hcast]
  have B8 := hide (below_next B7.out b8)
  clear b8 G7 U7 B7 hcast
  go_wp2_with fail
  go_ret
  exact ⟨rfl, B8.out⟩

theorem walk (s : ByteArray) (w : World) :
    Calls Try.prog 3 #[.string s] w fun e w' => e = .returned (.bool true) ∧ Below w.heap.size w w' := by
  by_cases hbig : (1048576 : Int) < (s.size : Int)
  · go_enter Try.func3, Try.ntmps3
    go_wp2
    go_ret
    exact ⟨rfl, Below.refl _ _⟩
  · have hl : s.data.toList.length = s.size := (Lib.size_eq s).symm
    have hcl := wordsB_length s.data.toList
    exact core s 0 _ w hbig (by omega) (fun w => specWordsOf_any s w (by omega)) (fun w => implWordsOf_any s w (by omega))

set_option maxRecDepth 100000 in
theorem lifted (os : Os) (started : os.Started) (H : Type) (enc : TypeId × Value → H) :
    ReturnsInHanded {} Try.checked os 3 .any (Rows.fnExactWordsOfSpec.pre6 enc Try.prog Try.f3 Rows.fnExactWordsOfRow.domain false) (Rows.fnExactWordsOfSpec.post enc Try.prog Try.f3 false true false false) := by
  refine returnsInHanded_of_change (C := Try.checked) own started (by kernel_rfl) Try.func3
    (ChangeSpec.witness6 (enc := enc) (C := Try.checked) false ⟨#[], #[.string ⟨#[]⟩], []⟩ 8 (by kernel_rfl) (by kernel_rfl) (by kernel_rfl) (by kernel_rfl)) ?_
  intro W base args ds gs before hval0 hW hcnd _
  have hval : ∀ (j : Nat) t v, Try.f3.params[j]? = some t → args[j]? = some v → Value.okWide Try.prog W .any base t v := hval0
  have hW' := hW
  obtain ⟨p, q, hA0, hV, rfl, hfz, hnd⟩ := hW
  have hA : DataW.TrodAll enc Try.prog W 0 (fun _ => true) true Try.f3.params.toList args.toList ds p := hA0
  rw [Try.params3] at hA hval
  obtain ⟨v0, vs0, d0, ds0, p0, q0, hargs, rfl, rfl, h0, r0⟩ := trodAll_cons hA
  obtain ⟨rfl, rfl, rfl⟩ := trodAll_nil r0
  obtain rfl : args = #[v0] := by cases args; simp_all
  obtain ⟨rfl, rfl⟩ := trodVars_none hV
  obtain ⟨s, rfl, rfl, rfl, hs⟩ := open_string Try.underlying9 (hval 0 9 v0 rfl rfl) h0
  clear hA0 hval0
  simp only [List.append_nil] at hW'
  refine (walk s W).mono fun e W' ⟨he, bel⟩ => ?_
  subst he
  exact ⟨_, rfl, _, _, _, [], [], [], hW', trodAll_mk1 (shut_bool Try.underlying4 _), (trodAll_cons_mk (shut_string Try.underlying9 hs) trodAll_mk0), rfl, bel.frame _, fun h => by cases h⟩

theorem over : Rows.fnExactWordsOfRow.holds Try.pinned (OpenSpec.ofChange Rows.fnExactWordsOfSpec) :=
  OpenClaim.holds_of_wide 3 Try.f3 rfl rfl rfl rfl rfl rfl rfl ⟨rfl, rfl, rfl, rfl, rfl⟩ rfl rfl rfl rfl rfl (by kernel_rfl) Try.func3 (by kernel_rfl)
    (of_decide_eq_true (by kernel_rfl)) (by unfold Func.isWrapper; first | (rw [if_pos (by decide +kernel)]; kernel_rfl) | (rw [if_neg (by decide +kernel)]; exact ⟨rfl, rfl⟩))
    (fun os started H enc _ => lifted os started H enc)

end Go.Proofs.Ytkimblnabbfkfaa.wordsOf
namespace Go.Proofs.Ytkimblnabbfkfaa
theorem fnExactWordsOf_holds : Rows.FnExactWordsOfSaid := wordsOf.over
#print axioms fnExactWordsOf_holds
end Go.Proofs.Ytkimblnabbfkfaa

