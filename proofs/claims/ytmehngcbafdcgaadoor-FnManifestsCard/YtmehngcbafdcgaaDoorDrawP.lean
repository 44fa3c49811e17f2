/-
  The model's draws of paths: some text of a bounded length.
-/
import Derived.Test.YtmehngcbafdcgaaDoorPathS
import Derived.Test.YtmehngcbafdcgaaDoorDraw
namespace Go.Proofs.YtmehngcbafdcgaaDoor
open Go.RowKit
set_option linter.unusedVariables false

set_option maxRecDepth 100000 in
set_option maxHeartbeats 800000 in
theorem l1Chance_p (p : Nat) (zs : List Int) (t n : Int) (w : World) (h : Src w p zs t) (hu : U8 zs) (ht0 : 0 ≤ t) (ht1 : t ≤ 1099511627776) (hn0 : 1 ≤ n) (hn1 : n ≤ 2147483648) (hl : zs.length ≤ 1048576) :
    Calls Tryd.prog 32 #[.pointer (some ⟨p, 0, none⟩), .int .i64 n] w fun e w' => ∃ r, e = .returned (.bool r) ∧ Src w' p zs (t + 1) ∧ Kept (fun b => b = p) w w' := by
  have HC := hide (l1Next_any p zs t n w h hu ht0 ht1 hn0 hn1 hl)
  clear h hu
  go_enter Tryd.func32, Tryd.ntmps32
  go_wp2_with fail
  refine HC.out.mono ?_
  rintro e w1 ⟨r, rfl, r0, r1, s1, k1⟩
  have S1 := hide s1
  have K1 := hide k1
  clear s1 k1
  go_wp2_with fail
  go_ret
  exact ⟨_, rfl, S1.out, K1.out⟩

/-- A block of n texts, each of m bytes at most. -/
def Texts (w : World) (g n m : Nat) : Prop := g < w.heap.size ∧ ∀ i, i < n → ∃ x : Bs, w.cell? ⟨g, i, none⟩ = some (.string (str x)) ∧ x.length ≤ m
theorem Texts.new {w : World} {t : TypeId} {vs : List Bs} {m : Nat} (h : ∀ x ∈ vs, x.length ≤ m) : Texts (w.alloc (.cells (vs.map vS).toArray t)) w.heap.size vs.length m := by
  refine ⟨by simp, fun i hi => ⟨vs[i], ?_, h _ (List.getElem_mem hi)⟩⟩
  rw [cell_of_row _ w.heap.size i (vs.map vS).toArray t (0, 0) (heap_alloc_new w _)]
  simp [hi, vS]
theorem Texts.kept {S : Nat → Prop} {w w' : World} {g n m : Nat} (h : Texts w g n m) (hk : Kept S w w') (hn : ¬ S g) : Texts w' g n m :=
  ⟨Nat.lt_of_lt_of_le h.1 hk.size, fun i hi => by obtain ⟨x, hx, hl⟩ := h.2 i hi; exact ⟨x, (hk.cell (p := ⟨g, i, none⟩) h.1 hn).trans hx, hl⟩⟩

set_option maxRecDepth 100000 in
set_option maxHeartbeats 800000 in
theorem l3Name_any (p : Nat) (zs : List Int) (t : Int) (w : World) (h : Src w p zs t) (hu : U8 zs) (ht0 : 0 ≤ t) (ht1 : t ≤ 1099511627776) (hl : zs.length ≤ 1048576) :
    Calls Tryd.prog 25 #[.pointer (some ⟨p, 0, none⟩)] w fun e w' => ∃ x : Bs, e = .returned (.string (str x)) ∧ x.length ≤ 2 ∧ Src w' p zs (t + 1) ∧ Kept (fun b => b = p) w w' := by
  have hp := h.lt
  have T0 := hide (Texts.new (w := w) (t := 9) (vs := [[97], [98], [99], [97, 98]]) (m := 2) (by decide))
  have HS := hide (h.below (below_alloc w (.cells ([[97], [98], [99], [97, 98]].map vS).toArray 9)))
  have HU := hide hu
  clear h hu
  go_enter Tryd.func25, Tryd.ntmps25
  go_wp2_with fail
  refine (l1Next_any p zs t 4 _ HS.out HU.out ht0 ht1 (by decide) (by decide) hl).mono ?_
  rintro e w1 ⟨r, rfl, r0, r1, s1, k1⟩
  have T1 := hide (T0.out.kept k1 (by omega))
  have S1 := hide s1
  have K1 := hide (((Kept.refl (fun b => b = p) w).alloc (.cells ([[97], [98], [99], [97, 98]].map vS).toArray 9)).trans k1)
  clear s1 k1 T0 HS
  obtain ⟨i, rfl⟩ : ∃ i : Nat, r = i := ⟨r.toNat, by omega⟩
  obtain ⟨x, hx, hxl⟩ := T1.out.2 i (by simp; omega)
  have hb := T1.out.1
  go_wp2_with fail
  go_ret
  exact ⟨x, rfl, hxl, S1.out, K1.out⟩

theorem cells5' (w : World) (a b c d e : Int) (t : TypeId) : ∀ i, i < 5 → (w.alloc (.cells #[.int .i64 a, .int .i64 b, .int .i64 c, .int .i64 d, .int .i64 e] t)).cell? ⟨w.heap.size, i, none⟩ = some (.int .i64 ([a, b, c, d, e].getD i 0)) := by
  intro i hi
  match i, hi with
  | 0, _ | 1, _ | 2, _ | 3, _ | 4, _ => simp
theorem join_small : ∀ (ns : List Bs), (∀ n ∈ ns, n.length ≤ 2) → (joinB ns).length ≤ 3 * ns.length
  | [], _ => by simp [joinB]
  | n :: ns, h => by
    have := join_small ns (fun m hm => h m (by simp [hm]))
    have := h n (by simp)
    simp [joinB]; omega




end Go.Proofs.YtmehngcbafdcgaaDoor
