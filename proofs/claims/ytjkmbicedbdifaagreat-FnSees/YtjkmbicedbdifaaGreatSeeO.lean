/-
  The program's iterator over the map's items.
-/
import Derived.Test.YtjkmbicedbdifaaGreatSeeK
import Derived.RangeFuncGives
import Derived.Shelf.AbstractIn
import Derived.RangeFuncSeq
import Derived.Sort.MapsRangeIn
import Derived.OwnWalkIn
import Derived.TacticsInMore
import Derived.RegionIn
import Derived.LoopNIn
import Derived.LoopIn
import Derived.Maps.AppendAt
import Derived.Shelf.Abstract
namespace Go.Proofs.YtjkmbicedbdifaaGreat
open Go.RowKit Go.Maps Go.Shelf
set_option linter.unusedVariables false

/-- What has come of the map: a list of spots with their items. -/
structure CameS (w0 : World) (S : Nat → Bs → Option En) (left : Lit → Bool) (ss : List ((Nat × Bs) × Rw)) : Prop where
  one : (ss.map Prod.fst).Nodup
  was : ∀ x ∈ ss, x.1.1 ≤ 100 ∧ x.1.2.length ≤ 1048576 ∧ S x.1.1 x.1.2 = some x.2.e ∧ Reads .i64 w0 x.2.a x.2.e.chunks ∧ left (spotK x.1.1 x.1.2) = false
  all : ∀ i p e, i ≤ 100 → p.length ≤ 1048576 → S i p = some e → left (spotK i p) = false → (i, p) ∈ ss.map Prod.fst
theorem CameS.step {w0 : World} {S : Nat → Bs → Option En} {left : Lit → Bool} {ss : List ((Nat × Bs) × Rw)} {i : Nat} {p : Bs} {r : Rw} (h : CameS w0 S left ss) (hi : i ≤ 100) (hp : p.length ≤ 1048576) (hl : left (spotK i p) = true) (hS : S i p = some r.e) (hr : Reads .i64 w0 r.a r.e.chunks) :
    CameS w0 S (fun z => left z && !z.sameKey (spotK i p)) (ss ++ [((i, p), r)]) := by
  have hself : (spotK i p).sameKey (spotK i p) = true := WideAt.sameKey_self (spot_isKey hi hp)
  refine ⟨?_, fun x hx => ?_, fun j q e hj hq he hlf => ?_⟩
  · rw [List.map_append, List.nodup_append]
    refine ⟨h.one, by simp, fun y hy z hz e => ?_⟩
    simp only [List.map_cons, List.map_nil, List.mem_singleton] at hz
    subst hz; subst e
    obtain ⟨x, hx, hxy⟩ := List.mem_map.1 hy
    have := (h.was x hx).2.2.2.2
    rw [hxy, hl] at this; cases this
  · rcases List.mem_append.1 hx with hx | hx
    · obtain ⟨a1, a2, a3, a4, a5⟩ := h.was x hx
      exact ⟨a1, a2, a3, a4, by simp [a5]⟩
    · simp only [List.mem_singleton] at hx
      subst hx
      exact ⟨hi, hp, hS, hr, by simp [hself]⟩
  · rw [List.map_append, List.mem_append]
    cases hl2 : left (spotK j q)
    · exact Or.inl (h.all j q e hj hq he hl2)
    · rw [hl2] at hlf
      have hk := WideAt.sameKey_eq (show (spotK j q).sameKey (spotK i p) = true by simpa using hlf)
      obtain ⟨rfl, rfl⟩ := spotK_inj hj hi hq hp hk
      exact Or.inr (by simp)

set_option maxRecDepth 100000 in
set_option maxHeartbeats 2000000 in
theorem values1_in (F : Fence) (n : Nat) (hF : F.fn 100) (hro : F.round = none) (hn : 1 ≤ n) (l Bm b N : Nat) (S : Nat → Bs → Option En) (w0 : World) (J : List Rw → World → Prop)
    (hY : ∀ pre (r : Rw) W, J pre W → pre.length < N → (∃ i p, S i p = some r.e) → Reads .i64 w0 r.a r.e.chunks → YieldAt F (n - 1) Tryz.prog l #[itV r.e r.a r.c] W fun e W' => e = .returned (.bool true) ∧ J (pre ++ [r]) W' ∧ KeepsWalks W W')
    (W : World) (hJ : AbidesFrom W.heap.size J) (hm : W.cell? ⟨Bm, 0, none⟩ = some (.map (some b))) (hS : SeeM w0 W b N S) (h0 : J [] W) :
    CallsIn F n Tryz.prog 100 #[.func (.yield l) #[] #[], .pointer (some ⟨Bm, 0, none⟩)] W fun e W' => (∃ v, e = .returned v) ∧ ∃ ss : List ((Nat × Bs) × Rw), ss.length ≤ N ∧ CameS w0 S (fun _ => false) ss ∧ J (ss.map Prod.snd) W' := by
  obtain ⟨Dt, A, C, h1, h2, h3, h4⟩ := hS
  obtain ⟨es0, rfl, hap, hkeys⟩ := h1.entries spotLaw
  have hown := h1
  have H2 := hide h2
  have H3 := hide h3
  have H4 := hide h4
  clear h2 h3 h4 h1
  refine callsIn_of_wp Tryz.func100 rfl hF ?_ hro
  simp only [Tryz.ntmps100, List.size_toArray, List.length_cons, List.length_nil, Nat.reduceAdd, Nat.reduceSub, Array.replicate_succ, Array.replicate_zero, List.push_toArray, List.append_toArray, List.nil_append, List.cons_append]
  gi_wp2_with (first
    | (gi_at_range; refine wpListIn_range_own _ rfl _ 57 rfl 73 64 spotLaw Tryz.underlying57 _ b N _ rfl hown ?_; intro v0 hrg0 hg0 hs0)
    | gi_in)
  go_frame
  gi_loopw [7] (fun _ wr => ∃ (left : Lit → Bool) (cnt : Nat) (ss : List ((Nat × Bs) × Rw)), wr.ranges Tryz.prog 73 RVs b W.heap.size N (.map es0) left cnt ∧ ss.length + cnt ≤ N ∧ CameS w0 S (fun z => Maps.has (.map es0) z && left z) ss ∧ J (ss.map Prod.snd) wr)
    (fun _ wr => wr.rangeLeft b W.heap.size)
  case atStart =>
    exact ⟨_, _, [], hrg0, by simpa using hown.size_le, ⟨by simp, fun x hx => by simp at hx, fun i p e hi hp he hl => by
      rw [Bool.and_self, H2.out i p hi hp, he] at hl; cases hl⟩, hJ [] W v0 none h0 hg0 (fun r e => by cases e)⟩
  case round =>
    obtain ⟨left, cnt, ss, hrg, hcs, hC, hJs⟩ := hrel
    gi_wp2_with (first
      | (gi_at_next; refine wpListIn_next_ranges _ rfl _ rfl 73 spotLaw RVs id id (fun key _ _ => ⟨key, rfl⟩) (fun v _ _ => ⟨v, rfl⟩) b W.heap.size N _ _ _ rfl hrg ?_ ?_)
      | gi_in)
    · intro hc0 hl0
      gi_wp2
      go_end0
      refine ⟨⟨_, rfl⟩, ss, by omega, ?_, hJs⟩
      have : (fun z => Maps.has (.map es0) z && left z) = fun _ => false := funext fun z => by simp [hl0 z]
      rw [this] at hC
      exact hC
    · intro x c kl yd yp w2 cnt2 hkey hlk hv hat hrg2 hlt hg2 hs2 hen
      have hFk : Fk (fun _ _ => false) es0 left = .map es0 := by simp [Fk]
      obtain ⟨i, p, e, hi, hp, rfl, hx, hcc, he⟩ := see_came (pd := fun _ _ => false) hap H2.out H3.out H4.out hkey hlk hv (by rw [hFk]; exact hat)
      have hx2 : x = spotV i p := hx
      have hc2 : c = itV e (A i p) (C i p) := hcc
      subst hx2 hc2
      clear hx hcc hFk
      have hrd := (H3.out i p e hi hp he).2
      have hhas : Maps.has (.map es0) (spotK i p) = true := by rw [H2.out i p hi hp, he]; rfl
      have hC2 := hC.step (r := ⟨e, A i p, C i p⟩) hi hp (by rw [hhas, hlk]; rfl) he hrd
      have hJ2 : J (ss.map Prod.snd) w2 := hJ _ wr w2 (some W.heap.size) hJs hg2 (fun r e => by cases e; exact ⟨Nat.le_refl _, hrg.iter_walk⟩)
      have hJ3 := hJ _ w2 (w2.alloc (.cells #[.int .i64 e.size, .slice (A i p) e.chunks.length (C i p), .string (str e.path), .int .i64 e.kind] 64)) none hJ2 (World.grownBy_alloc _ _ _) (fun r e => by cases e)
      have hrg3 := hrg2.kept (World.grownBy_alloc w2 (.cells #[.int .i64 e.size, .slice (A i p) e.chunks.length (C i p), .string (str e.path), .int .i64 e.kind] 64) none) (by simp) (by simp)
      obtain ⟨fn, tmps, assign, body, hy, hR⟩ := hY _ ⟨e, A i p, C i p⟩ _ hJ3 (by rw [List.length_map]; omega) ⟨i, p, he⟩ hrd
      unfold itV at hy hen
      unfold spotV at hen
      unfold itV spotV
      clear hC hJs hJ2 hv hat hkey
      gi_wp2
      refine hR.mono ?_
      rintro e W3 ⟨rfl, hJ3, hk3⟩
      gi_wp2
      have hrg4 := hrg3.of_walks hk3
      go_roundw
      case rel => exact ⟨_, cnt2, ss ++ [((i, p), ⟨_, A i p, C i p⟩)], hrg4, by simp; omega, by simpa [Bool.and_assoc] using hC2, by simpa using hJ3⟩
      case measure => rw [hrg4.left_eq, hrg.left_eq]; exact hlt
end Go.Proofs.YtjkmbicedbdifaaGreat
