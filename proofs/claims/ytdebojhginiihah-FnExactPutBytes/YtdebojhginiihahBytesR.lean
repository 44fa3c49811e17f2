/-
  Contracts of the laws' helpers on BytesResult.
-/
import Derived.Test.YtdebojhginiihahBytes
namespace Go.Proofs.Ytdebojhginiihah
open Go.RowKit
set_option linter.unusedVariables false

/-- v is a row of the bytes ds in a block of its own, from B on and below T. -/
def GB (B T : Nat) (w : World) (v : Value) (ds : List Int) : Prop :=
  w.ownsRow B 5 1 v ds.length (ds.map (Value.int .u8)) ∧ ∀ b, v.ownBlock = some b → b < T
theorem GB.kept {S : Nat → Prop} {B T : Nat} {w w' : World} {v : Value} {ds : List Int} (h : GB B T w v ds) (hk : Kept S w w') (hS : ∀ b, B ≤ b → b < T → ¬ S b) : GB B T w' v ds :=
  ⟨ownsRow_kept h.1 hk (fun b hb => hS b (h.1.lt b hb).1 (h.2 b hb)), h.2⟩
theorem GB.below {B T : Nat} {w w' : World} {v : Value} {ds : List Int} (h : GB B T w v ds) (hk : Below w.heap.size w w') : GB B T w' v ds :=
  h.kept (S := fun _ => False) (Kept.of_below hk) (fun _ _ _ => id)
theorem GB.mk {B : Nat} {w : World} {v : Value} {ds : List Int} {n : Nat} (h : w.ownsRow B 5 1 v n (ds.map (Value.int .u8))) (hn : n = ds.length) : GB B w.heap.size w v ds := by
  subst hn
  exact ⟨h, fun b hb => (h.lt b hb).2⟩
theorem GB.own {B T : Nat} {w : World} {a : Option Addr} {c : Nat} {ds : List Int} (h : GB B T w (.slice a ds.length c) ds) : Own .u8 w a ds := ownsRow_own h.1 rfl
theorem GB.mark {B T : Nat} {w w' : World} {a : Option Addr} {c : Nat} {ds ys : List Int} (h : GB B T w (.slice a ds.length c) ds) (hl : ys.length = ds.length) (ho : Own .u8 w' a ys) (hs : SameShape w w') : GB B T w' (.slice a ds.length c) ys := by
  obtain ⟨h1, h2⟩ := h
  refine ⟨?_, h2⟩
  rw [hl]
  rcases h1.2 with ⟨h', h0⟩ | ⟨g, cap, cur, h', hb, hh, hnc, hcm, hcs, htake⟩
  · have e : ys = [] := List.eq_nil_of_length_eq_zero (by omega)
    have e2 : ds = [] := List.eq_nil_of_length_eq_zero h0
    subst e e2
    rw [h']
    exact World.ownsRow_nil _ _ _ _
  · simp only [Value.slice.injEq, true_and] at h'
    obtain ⟨rfl, rfl⟩ := h'
    refine own_back h1 hs (by simp [hl]) (fun t ht => ?_)
    obtain ⟨b, off, e1, hb, hc⟩ := ho (by intro e; rw [e] at hl; simp at hl; omega)
    simp only [Option.some.injEq, Addr.mk.injEq, and_true] at e1
    obtain ⟨rfl, rfl⟩ := e1
    have := (hc t (by omega)).1
    rw [Nat.zero_add] at this
    rw [this]
    have ht2 : t < ys.length := by omega
    simp [List.getD_eq_getElem?_getD, ht2]

set_option maxHeartbeats 400000 in
theorem eqBytesResult_same (q : Int) (a b : Option Addr) (ca cb : Nat) (ds : List Int) (w : World) (ha : Reads .u8 w a ds) (hb : Reads .u8 w b ds) (hl : ds.length ≤ 1048576) :
    Calls Try.prog 23 #[.agg #[.int .i64 q, .slice a ds.length ca], .agg #[.int .i64 q, .slice b ds.length cb]] w fun e w' => e = .returned (.bool true) ∧ Below w.heap.size w w' := by
  have HA := hide ha
  have HB := hide hb
  clear ha hb
  have B1 : Below w.heap.size w ((w.alloc (.cells #[.int .i64 q, .slice a ds.length ca] 39)).alloc (.cells #[.int .i64 q, .slice b ds.length cb] 39)) := ((Below.refl _ _).alloc (Nat.le_refl _) _).alloc (by simp) _
  have HBB := hide B1
  clear B1
  go_enter Try.func23, Try.ntmps23
  go_wp2_with fail
  refine (eqByteS_b a b ca cb ds _ (HA.out.below HBB.out) (HB.out.below HBB.out) hl).mono ?_
  rintro e w1 ⟨rfl, b1⟩
  have B2 := hide (below_next HBB.out b1)
  clear b1 HBB
  go_wp2_with fail
  go_ret
  exact ⟨rfl, B2.out⟩

set_option maxHeartbeats 400000 in
theorem markBytesResult_any (q : Int) (B T : Nat) (a : Option Addr) (c : Nat) (ds : List Int) (k : Int) (w : World) (h : GB B T w (.slice a ds.length c) ds) (hk0 : 0 ≤ k) (hk1 : k ≤ 1048576) (hl : ds.length ≤ 1048576) :
    Calls Try.prog 24 #[.agg #[.int .i64 q, .slice a ds.length c], .int .i64 k] w fun e w' => e = .returned (.int .i64 (k + ds.length)) ∧ GB B T w' (.slice a ds.length c) (marks k ds.length) ∧ Kept (fun b => B ≤ b ∧ b < T) w w' := by
  have HG := hide h
  clear h
  go_enter Try.func24, Try.ntmps24
  go_wp2_with fail
  refine (markByteS_any a c ds k _ (HG.out.below (below_alloc _ _)).own hk0 (by omega) (by omega)).mono ?_
  rintro e w1 ⟨rfl, o1, k1, s1⟩
  have O1 := hide o1
  have K1 := hide k1
  have S1 := hide s1
  clear o1 k1 s1
  go_wp2_with fail
  go_ret
  refine ⟨rfl, (HG.out.below (below_alloc _ _)).mark (marks_length _ _) O1.out S1.out, ((Kept.refl _ _).alloc _).trans (K1.out.mono (fun b hb hS => ?_))⟩
  obtain ⟨h1, h2⟩ := HG.out
  have e : (Value.slice a ds.length c).ownBlock = some b := by
    cases a with
    | none => simp [blkOf] at hS
    | some x => simpa [blkOf, Value.ownBlock] using hS
  exact ⟨(h1.lt b e).1, h2 b e⟩

set_option maxHeartbeats 400000 in
theorem heldBytesResult_any (q : Int) (a : Option Addr) (c n : Nat) (k : Int) (w : World) (h : Reads .u8 w a (marks k n)) (hk0 : 0 ≤ k) (hk1 : k ≤ 1048576) (hl : n ≤ 1048576) :
    Calls Try.prog 25 #[.agg #[.int .i64 q, .slice a n c], .int .i64 k] w fun e w' => e = .returned (.int .i64 (k + n)) ∧ Below w.heap.size w w' := by
  have HG := hide h
  clear h
  have hk2 : ¬ (k + (n : Int)) < 0 := by omega
  go_enter Try.func25, Try.ntmps25
  go_wp2_with fail
  refine (heldByteS_any a c n k _ (HG.out.below (below_alloc _ _)) hk0 (by omega) (by omega)).mono ?_
  rintro e w1 ⟨rfl, rfl⟩
  go_wp2_with fail
  go_ret
  exact ⟨rfl, below_alloc _ _⟩

end Go.Proofs.Ytdebojhginiihah
