/-
  The program's iterator over the pieces of a text: it tells all that the text is cut into at its strokes, or a beginning of them.
-/
import Derived.RangeFuncNested
import Derived.RangeFuncBound
import Derived.RangeFuncCalls
import Derived.RangeFuncLeaves
import Derived.RangeFuncBox
import Derived.Shelf.Abstract
import Derived.Shelf.RegionOpen
import Derived.OwnWalkIn
import Derived.TacticsInMore
import Derived.LoopNIn
import Derived.LoopIn
import Derived.Maps.AppendAt
import Derived.Test.YtcnoabkpilmanaaLibP
namespace Go.Proofs.Ytcnoabkpilmanaa
open Go.RowKit Go.Shelf
set_option linter.unusedVariables false
attribute [local go_sem] Oper.semAt_some

/-- A piece: a text of a bounded length. -/
abbrev Pc := { p : Bs // p.length ≤ 2097152 }
def pcs (ps : List Pc) : List Bs := ps.map Subtype.val
theorem pcs_snoc (ps : List Pc) (x : Pc) : pcs (ps ++ [x]) = pcs ps ++ [x.1] := by simp [pcs]
theorem pcs_length (ps : List Pc) : (pcs ps).length = ps.length := by simp [pcs]

def szOf : Value → Nat
  | .string s => s.size
  | _ => 0
def bitOf : Value → Nat
  | .bool true => 1
  | _ => 0
theorem grown_drewN (w : World) (n : Nat) : w.grownBy (w.drewN n) none := ⟨rfl, rfl, rfl, Nat.le_refl _, fun _ _ _ => rfl⟩

theorem cut_cases (r : Bs) : (47 : UInt8) ∉ r ∨ ∃ a b, r = a ++ 47 :: b ∧ (47 : UInt8) ∉ a := by
  induction r with
  | nil => exact .inl (by simp)
  | cons c r ih =>
    by_cases hc : c = 47
    · exact .inr ⟨[], r, by simp [hc], by simp⟩
    · rcases ih with h | ⟨a, b, h, ha⟩
      · exact .inl (by simp [h, Ne.symm hc])
      · exact .inr ⟨c :: a, b, by simp [h], by simp [ha, Ne.symm hc]⟩

set_option maxRecDepth 100000 in
set_option maxHeartbeats 2000000 in
/-- The closure: for every loop body that keeps what lay below n₀. -/
theorem pieces1_in (n : Nat) (l Bn n₀ : Nat) (t : Bs) (ht : t.length ≤ 2097152) (J Jx : List Pc → World → Prop) (B : Nat) (hJ : AbidesFrom B J)
    (hY : ∀ (pre : List Pc) (x : Pc) W, J pre W → pre.length < (cutB t).length → YieldAt Fence.wide (n - 1) Try.prog l #[.string (str x.1)] W fun e W' =>
      (e = .returned (.bool true) ∧ J (pre ++ [x]) W' ∧ Below n₀ W W') ∨ (e = .returned (.bool false) ∧ Jx (pre ++ [x]) W'))
    (W : World) (hBn : W.cell? ⟨Bn, 0, none⟩ = some (.string (str t))) (h0 : J [] W) :
    CallsIn Fence.wide n Try.prog 49 #[.func (.yield l) #[] #[], .pointer (some ⟨Bn, 0, none⟩)] W fun e W' => (∃ v, e = .returned v) ∧
      ((∃ ys, pcs ys = cutB t ∧ J ys W') ∨ (∃ pre, pcs pre <+: cutB t ∧ Jx pre W')) := by
  refine callsIn_of_wp Try.func49 rfl trivial ?_ rfl
  simp only [Try.ntmps49, List.size_toArray, List.length_cons, List.length_nil, Nat.reduceAdd, Nat.reduceSub, Array.replicate_succ, Array.replicate_zero, List.push_toArray, List.append_toArray, List.nil_append, List.cons_append]
  gi_wp2
  gi_loopw [3, 4] (fun r m wr => ∃ (pre : List Pc) (q : Bs) (more : Bool), r = .string (str q) ∧ m = .bool more ∧ q.length ≤ 2097152 ∧ Hid (cutB t = pcs pre ++ (if more then cutB q else [])) ∧ Hid (J pre wr)) (fun r m _ => bitOf m * (szOf r + 1))
  case atStart => exact ⟨[], t, true, rfl, rfl, ht, hide rfl, hide h0⟩
  case round =>
    obtain ⟨pre, q, more, rfl, rfl, hq, HC, HJ⟩ := hrel
    cases more with
    | false =>
      gi_wp2
      go_end0
      exact ⟨⟨_, rfl⟩, .inl ⟨pre, by have := HC.out; simpa using this.symm, HJ.out⟩⟩
    | true =>
      have HC' := hide (show cutB t = pcs pre ++ cutB q from HC.out)
      rcases cut_cases q with hm | ⟨a, b, hqe, ha⟩
      · have HE := hide (cutB_miss hm)
        have hlen : pre.length < (cutB t).length := by rw [HC'.out, HE.out]; simp [pcs]
        gi_wp2_with fail
        refine ⟨trivial, fun h => (by cases h), ?_⟩
        refine (callsIn_wide.2 (cut_miss q _ hm)).mono ?_
        rintro e w' ⟨rfl, k, rfl⟩
        obtain ⟨fn, tmps, assign, body, hy, hR⟩ := hY pre ⟨q, hq⟩ (wr.drewN k) (hJ _ _ _ none HJ.out (grown_drewN _ _) (fun r e => by cases e)) hlen
        dsimp only at hy
        gi_wp2_with fail
        refine ⟨fun h => (by cases h), hR.mono ?_⟩
        clear hR hy
        rintro e W3 (⟨rfl, hJ3, hk3⟩ | ⟨rfl, hJx3⟩)
        · have H3 := hide hJ3
          clear hJ3 hk3
          gi_wp2_with fail
          go_roundw
          case rel => exact ⟨pre ++ [⟨q, hq⟩], [], false, rfl, rfl, by simp, hide (by rw [HC'.out, HE.out, pcs_snoc]; simp), H3⟩
          case measure => simp [bitOf]
        · have H3 := hide hJx3
          clear hJx3
          gi_wp2_with fail
          refine bodyPost_ret (results_none rfl _ _ _) rfl ?_
          exact ⟨⟨_, rfl⟩, .inr ⟨pre ++ [⟨q, hq⟩], ⟨[], by rw [HC'.out, HE.out, pcs_snoc]; simp⟩, H3.out⟩⟩
      · have hql : q.length = a.length + (b.length + 1) := by rw [hqe]; simp
        have hal : a.length ≤ 2097152 := by omega
        have HE := hide (show cutB q = a :: cutB b by rw [hqe]; exact cutB_hit b ha)
        have hlen : pre.length < (cutB t).length := by rw [HC'.out, HE.out]; simp [pcs]
        have HQ := hide (cut_hit a b wr ha (by omega))
        rw [← hqe] at HQ
        have hbl : b.length < q.length := by omega
        clear hqe hql
        gi_wp2_with fail
        refine ⟨trivial, fun h => (by cases h), ?_⟩
        refine (callsIn_wide.2 HQ.out).mono ?_
        rintro e w' ⟨rfl, k, rfl⟩
        obtain ⟨fn, tmps, assign, body, hy, hR⟩ := hY pre ⟨a, hal⟩ (wr.drewN k) (hJ _ _ _ none HJ.out (grown_drewN _ _) (fun r e => by cases e)) hlen
        dsimp only at hy
        gi_wp2_with fail
        refine ⟨fun h => (by cases h), hR.mono ?_⟩
        clear hR hy
        rintro e W3 (⟨rfl, hJ3, hk3⟩ | ⟨rfl, hJx3⟩)
        · have H3 := hide hJ3
          clear hJ3 hk3
          gi_wp2_with fail
          go_roundw
          case rel => exact ⟨pre ++ [⟨a, hal⟩], b, true, rfl, rfl, by omega, hide (by rw [HC'.out, HE.out, pcs_snoc]; simp), H3⟩
          case measure => simp [bitOf, szOf, str_size]; omega
        · have H3 := hide hJx3
          clear hJx3
          gi_wp2_with fail
          refine bodyPost_ret (results_none rfl _ _ _) rfl ?_
          exact ⟨⟨_, rfl⟩, .inr ⟨pre ++ [⟨a, hal⟩], ⟨cutB b, by rw [HC'.out, HE.out, pcs_snoc]; simp⟩, H3.out⟩⟩

set_option maxHeartbeats 1000000 in
/-- piecesOf: the text is boxed; the function value captures the box. -/
theorem piecesOf_in (s : ByteArray) (w : World) :
    Calls Try.prog 42 #[.string s] w fun e w' => e = .returned (.func (.func 49) #[] #[.pointer (some ⟨w.heap.size, 0, none⟩)]) ∧ w' = w.alloc (.cells #[.string s] 9) := by
  go_enter Try.func42, Try.ntmps42
  go_wp2
  go_ret
  exact ⟨rfl, rfl⟩

/-- What is ranged over. -/
theorem pieces_stops (n : Nat) (Bn n₀ : Nat) (t : Bs) (ht : t.length ≤ 2097152) (w : World) (hBn : Bn < w.heap.size) (hc : w.cell? ⟨Bn, 0, none⟩ = some (.string (str t))) :
    SeqStopsK Fence.wide n Try.prog 49 #[.pointer (some ⟨Bn, 0, none⟩)] (fun x : Pc => #[Value.string (str x.1)]) (Below n₀) (fun ys => pcs ys = cutB t) (fun pre => pcs pre <+: cutB t) (cutB t).length w := fun l J Jx W hW hJ _ hY h0 =>
  pieces1_in n l Bn n₀ t ht J Jx _ hJ hY W ((hW.cell (p := ⟨Bn, 0, none⟩) hBn).trans hc) h0

end Go.Proofs.Ytcnoabkpilmanaa
