/-
  Texts put together: RdF RdG LibP Pieces PathP IteA TxtW TxtP EntL Cut EntG EntC EntA RdH LayQ PathQ IteB EntW.
-/
import Derived.Test.YtlbccbikepkfiaaGreatDoorJ1
import Derived.Lib.IndexLaws
import Derived.RangeFuncNested
import Derived.RangeFuncBound
import Derived.RangeFuncCalls
import Derived.RangeFuncLeaves
import Derived.RangeFuncBox
import Derived.Shelf.Abstract
import Derived.Shelf.RegionOpen
import Derived.OwnWalkIn
import Derived.TacticsInMore
import Derived.LoopNIn
import Derived.LoopIn
import Derived.Maps.AppendAt
import Derived.Scope
import Derived.Deep.RegionHeld3
import Derived.Lib.SliceRun
import Derived.Deep.AppendLies
import Derived.Deep.DrawnRows
import Derived.Defers
import Derived.Recover
import Derived.Laws.Pointers
namespace Go.Proofs.YtlbccbikepkfiaaGreatDoor
open Go.RowKit
set_option linter.unusedVariables false
set_option maxRecDepth 100000

/-- A block of four cells that may be written. -/
structure F4 (w : World) (b : Nat) (u0 u1 u2 u3 : Value) : Prop where
  four : Four w b u0 u1 u2 u3
  free : ∀ i, w.frozen? ⟨b, i, none⟩ = false
theorem F4.new (w : World) (u0 u1 u2 u3 : Value) (t : TypeId) : F4 (w.alloc (.cells #[u0, u1, u2, u3] t)) w.heap.size u0 u1 u2 u3 := ⟨Four.new w u0 u1 u2 u3 t, fun i => by simp⟩
theorem F4.kept {S : Nat → Prop} {w w' : World} {b : Nat} {u0 u1 u2 u3 : Value} (h : F4 w b u0 u1 u2 u3) (hk : Kept S w w') (hn : ¬ S b) : F4 w' b u0 u1 u2 u3 :=
  ⟨⟨(hk.cell (p := ⟨b, 0, none⟩) h.four.lt hn).trans h.four.1, (hk.cell (p := ⟨b, 1, none⟩) h.four.lt hn).trans h.four.2.1, (hk.cell (p := ⟨b, 2, none⟩) h.four.lt hn).trans h.four.2.2.1, (hk.cell (p := ⟨b, 3, none⟩) h.four.lt hn).trans h.four.2.2.2⟩, fun i => (hk.frozen (p := ⟨b, i, none⟩) h.four.lt hn).trans (h.free i)⟩
theorem F4.below {w w' : World} {b : Nat} {u0 u1 u2 u3 : Value} (h : F4 w b u0 u1 u2 u3) (hk : Below w.heap.size w w') : F4 w' b u0 u1 u2 u3 := h.kept (S := fun _ => False) (Kept.of_below hk) id
theorem F4.set0 {w : World} {b : Nat} {u0 u1 u2 u3 : Value} (h : F4 w b u0 u1 u2 u3) (v : Value) : F4 (w.setCell ⟨b, 0, none⟩ v) b v u1 u2 u3 :=
  ⟨⟨cell_set_same h.four.1, by rw [cell_set_other (by simp)]; exact h.four.2.1, by rw [cell_set_other (by simp)]; exact h.four.2.2.1, by rw [cell_set_other (by simp)]; exact h.four.2.2.2⟩, fun i => by rw [World.frozen?_setCell]; exact h.free i⟩
theorem F4.set1 {w : World} {b : Nat} {u0 u1 u2 u3 : Value} (h : F4 w b u0 u1 u2 u3) (v : Value) : F4 (w.setCell ⟨b, 1, none⟩ v) b u0 v u2 u3 :=
  ⟨⟨by rw [cell_set_other (by simp)]; exact h.four.1, cell_set_same h.four.2.1, by rw [cell_set_other (by simp)]; exact h.four.2.2.1, by rw [cell_set_other (by simp)]; exact h.four.2.2.2⟩, fun i => by rw [World.frozen?_setCell]; exact h.free i⟩
theorem F4.set2 {w : World} {b : Nat} {u0 u1 u2 u3 : Value} (h : F4 w b u0 u1 u2 u3) (v : Value) : F4 (w.setCell ⟨b, 2, none⟩ v) b u0 u1 v u3 :=
  ⟨⟨by rw [cell_set_other (by simp)]; exact h.four.1, by rw [cell_set_other (by simp)]; exact h.four.2.1, cell_set_same h.four.2.2.1, by rw [cell_set_other (by simp)]; exact h.four.2.2.2⟩, fun i => by rw [World.frozen?_setCell]; exact h.free i⟩
theorem F4.set3 {w : World} {b : Nat} {u0 u1 u2 u3 : Value} (h : F4 w b u0 u1 u2 u3) (v : Value) : F4 (w.setCell ⟨b, 3, none⟩ v) b u0 u1 u2 v :=
  ⟨⟨by rw [cell_set_other (by simp)]; exact h.four.1, by rw [cell_set_other (by simp)]; exact h.four.2.1, by rw [cell_set_other (by simp)]; exact h.four.2.2.1, cell_set_same h.four.2.2.2⟩, fun i => by rw [World.frozen?_setCell]; exact h.free i⟩

/-- What stands while an entry is read: the result's cells, the entry's, the cursor's. -/
structure St (w W : World) (l : Bs) (more : Bool) (v0 v1 v2 v3 : Value) : Prop where
  x : F4 W w.heap.size (.string ⟨#[]⟩) (.int .i64 0) (.int .i64 0) (.slice none 0 0)
  m : F4 W (w.heap.size + 1) v0 v1 v2 v3
  c : Box W (w.heap.size + 1 + 1) (.string (str l)) (.bool more)
  below : Below w.heap.size w W
  size : w.heap.size + 3 ≤ W.heap.size
theorem St.next {w W W' : World} {l l' : Bs} {more more' : Bool} {v0 v1 v2 v3 : Value} (h : St w W l more v0 v1 v2 v3) (c : Box W' (w.heap.size + 1 + 1) (.string (str l')) (.bool more')) (k : Kept (fun x => x = w.heap.size + 1 + 1) W W') (z : W'.heap.size = W.heap.size) : St w W' l' more' v0 v1 v2 v3 := by
  have hz := h.size
  exact ⟨h.x.kept k (by omega), h.m.kept k (by omega), c, h.below.trans (k.below (B := w.heap.size) (by have := h.below.size; omega) (fun b hb e => by omega)), by omega⟩
theorem St.low {w W W' : World} {l : Bs} {more : Bool} {v0 v1 v2 v3 : Value} (h : St w W l more v0 v1 v2 v3) (b : Below W.heap.size W W') : St w W' l more v0 v1 v2 v3 := by
  have hz := h.size
  have hb := b.size
  exact ⟨h.x.below b, h.m.below b, h.c.below b, below_next h.below b, by omega⟩
theorem keptCell (W : World) (b i : Nat) (v : Value) : Kept (fun x => x = b) W (W.setCell ⟨b, i, none⟩ v) := Kept.setCell (S := fun x => x = b) (p := ⟨b, i, none⟩) (Kept.refl _ _) (fun _ => rfl) _
theorem St.set {w W : World} {l : Bs} {more : Bool} {v0 v1 v2 v3 v0' v1' v2' v3' : Value} (h : St w W l more v0 v1 v2 v3) (i : Nat) (v : Value) (hm : F4 (W.setCell ⟨w.heap.size + 1, i, none⟩ v) (w.heap.size + 1) v0' v1' v2' v3') : St w (W.setCell ⟨w.heap.size + 1, i, none⟩ v) l more v0' v1' v2' v3' := by
  have hz := h.size
  have k := keptCell W (w.heap.size + 1) i v
  exact ⟨h.x.kept k (by omega), hm, h.c.kept k (by omega), h.below.trans (k.below (B := w.heap.size) (by have := h.below.size; omega) (fun b hb e => by omega)), by simp [World.setCell]; omega⟩
theorem St.new (w : World) (l : Bs) (t1 t2 t3 : TypeId) : St w (((w.alloc (.cells #[.string ⟨#[]⟩, .int .i64 0, .int .i64 0, .slice none 0 0] t1)).alloc (.cells #[.string ⟨#[]⟩, .int .i64 0, .int .i64 0, .slice none 0 0] t2)).alloc (.cells #[.string (str l), .bool true] t3)) l true (.string ⟨#[]⟩) (.int .i64 0) (.int .i64 0) (.slice none 0 0) := by
  refine ⟨((F4.new w _ _ _ _ t1).below (below_alloc _ _)).below (below_alloc _ _), ?_, ?_, below_next (below_next (below_alloc w _) (below_alloc _ _)) (below_alloc _ _), by simp⟩
  · have := (F4.new (w.alloc (.cells #[.string ⟨#[]⟩, .int .i64 0, .int .i64 0, .slice none 0 0] t1)) (.string ⟨#[]⟩) (.int .i64 0) (.int .i64 0) (.slice none 0 0) t2).below (below_alloc _ (.cells #[.string (str l), .bool true] t3))
    simpa using this
  · have := Box.new ((w.alloc (.cells #[.string ⟨#[]⟩, .int .i64 0, .int .i64 0, .slice none 0 0] t1)).alloc (.cells #[.string ⟨#[]⟩, .int .i64 0, .int .i64 0, .slice none 0 0] t2)) (.string (str l)) (.bool true) t3
    simpa using this
/-- The result's cells are written over: the last step. -/
theorem St.out {w W : World} {l : Bs} {more : Bool} {v0 v1 v2 v3 : Value} (h : St w W l more v0 v1 v2 v3) (y0 y1 y2 y3 : Value) : Below w.heap.size w ((((W.setCell ⟨w.heap.size, 0, none⟩ y0).setCell ⟨w.heap.size, 1, none⟩ y1).setCell ⟨w.heap.size, 2, none⟩ y2).setCell ⟨w.heap.size, 3, none⟩ y3) :=
  (((h.below.setCell (p := ⟨w.heap.size, 0, none⟩) (Nat.le_refl _) y0).setCell (p := ⟨w.heap.size, 1, none⟩) (Nat.le_refl _) y1).setCell (p := ⟨w.heap.size, 2, none⟩) (Nat.le_refl _) y2).setCell (p := ⟨w.heap.size, 3, none⟩) (Nat.le_refl _) y3
theorem cut_next {m : UInt8} {l a : Bs} {r : List Bs} (h : cutC m l = a :: r) (hr : r ≠ []) (hl : l.length ≤ 2097152) : cutC m (joinC m r) = r ∧ (joinC m r).length ≤ 2097152 := by
  obtain ⟨hjl, -, hjc⟩ := cut_more h hr
  have h2 := congrArg List.length hjl
  simp only [List.length_append, List.length_cons] at h2
  exact ⟨hjc, by omega⟩

set_option maxHeartbeats 3200000 in
theorem readEntry_a (l a : Bs) (r : List Bs) (hc0 : cutC 32 l = a :: r) (hk : kindW a = none) (u : TypeId) (vp : Value) (w : World) (hl : l.length ≤ 2097152) (hg : Gl w u vp) :
    Calls Tryz.prog 37 #[.string (str l)] w fun r w' => r = Dies u vp ∧ Below w.heap.size w w' := by
  have HC0 := hide hc0
  clear hc0
  have HK := hide hk
  clear hk
  have HG : Hid (∀ w' : World, Below w.heap.size w w' → Gl w' u vp) := hide (fun w' hb => hg.below hb)
  clear hg
  have S0 := hide (St.new w l 39 39 80)
  go_enter Tryz.func37, Tryz.ntmps37
  go_wp2_with fail
  go_step3
  go_wp2_with fail
  generalize ((w.alloc (.cells #[.string ⟨#[]⟩, .int .i64 0, .int .i64 0, .slice none 0 0] 39)).alloc (.cells #[.string ⟨#[]⟩, .int .i64 0, .int .i64 0, .slice none 0 0] 39)).alloc (.cells #[.string (str l), .bool true] 80) = W0 at *
  refine (next_yes 32 (w.heap.size + 1 + 1) l a r W0 S0.out.c HC0.out hl).mono ?_
  rintro r0 w1 ⟨rfl, c1, k1, z1⟩
  have S1 := hide (S0.out.next c1 k1 z1)
  clear c1 k1 z1 S0
  go_wp2_with fail
  refine (readKind_no a u vp w1 (HG.out _ S1.out.below) HK.out).mono ?_
  rintro r1 w2 ⟨rfl, rfl⟩
  exact ⟨rfl, rfl, S1.out.below⟩
set_option maxHeartbeats 3200000 in
theorem readEntry_b (l a : Bs) (K : Int) (hc0 : cutC 32 l = [a]) (hk : kindW a = some K) (u : TypeId) (vp : Value) (w : World) (hl : l.length ≤ 2097152) (hg : Gl w u vp) :
    Calls Tryz.prog 37 #[.string (str l)] w fun r w' => r = Dies u vp ∧ Below w.heap.size w w' := by
  have HC0 := hide hc0
  clear hc0
  have HK := hide hk
  clear hk
  have HG : Hid (∀ w' : World, Below w.heap.size w w' → Gl w' u vp) := hide (fun w' hb => hg.below hb)
  clear hg
  have S0 := hide (St.new w l 39 39 80)
  go_enter Tryz.func37, Tryz.ntmps37
  go_wp2_with fail
  go_step3
  go_wp2_with fail
  generalize ((w.alloc (.cells #[.string ⟨#[]⟩, .int .i64 0, .int .i64 0, .slice none 0 0] 39)).alloc (.cells #[.string ⟨#[]⟩, .int .i64 0, .int .i64 0, .slice none 0 0] 39)).alloc (.cells #[.string (str l), .bool true] 80) = W0 at *
  refine (next_yes 32 (w.heap.size + 1 + 1) l a [] W0 S0.out.c HC0.out hl).mono ?_
  rintro r0 w1 ⟨rfl, c1, k1, z1⟩
  have S1 := hide (S0.out.next c1 k1 z1)
  clear c1 k1 z1 S0
  go_wp2_with fail
  refine (readKind_yes a K u vp w1 (HG.out _ S1.out.below) HK.out).mono ?_
  rintro r1 w2 ⟨rfl, rfl⟩
  obtain ⟨⟨q0, q1, q2, q3⟩, qf⟩ := S1.out.m
  have qg := qf 1
  go_wp2_with fail
  have S2 := hide (S1.out.set 1 (.int .i64 K) (S1.out.m.set1 (.int .i64 K)))
  generalize w2.setCell ⟨w.heap.size + 1, 1, none⟩ (.int .i64 K) = W2 at *
  clear S1 q0 q1 q2 q3 qf qg
  go_wp2_with fail
  refine (next_no (w.heap.size + 1 + 1) [] _ u vp W2 S2.out.c (HG.out _ S2.out.below).un).mono ?_
  rintro r2 w3 ⟨rfl, rfl⟩
  exact ⟨rfl, rfl, S2.out.below⟩
set_option maxHeartbeats 3200000 in
theorem readEntry_c (l a p : Bs) (K : Int) (rest : List Bs) (hc0 : cutC 32 l = a :: p :: rest) (hk : kindW a = some K) (h1 : K ≠ 1) (u : TypeId) (vp : Value) (w : World) (hl : l.length ≤ 2097152) (hg : Gl w u vp) :
    Calls Tryz.prog 37 #[.string (str l)] w fun r w' => r = .returned (.agg #[.string (str p), .int .i64 K, .int .i64 0, .slice none 0 0]) ∧ Below w.heap.size w w' := by
  have HC0 := hide hc0
  clear hc0
  have HK := hide hk
  clear hk
  have hkn : (K != 1) = true := by simp [h1]
  have HG : Hid (∀ w' : World, Below w.heap.size w w' → Gl w' u vp) := hide (fun w' hb => hg.below hb)
  clear hg
  have S0 := hide (St.new w l 39 39 80)
  go_enter Tryz.func37, Tryz.ntmps37
  go_wp2_with fail
  refine wp_scope_jumps 0 (fun a' W => ∃ (rl : Bs) (mo : Bool) (u5 u6 u7 u8 u9 u10 u11 u12 u13 u14 u15 u16 u17 u18 u19 u20 u21 u22 u23 u24 u25 u26 u27 u28 u29 u30 u31 : Value), St w W rl mo (.string (str p)) (.int .i64 K) (.int .i64 0) (.slice none 0 0) ∧ a' = { tmps := #[.string (str l), undef, .pointer (some ⟨w.heap.size, 0, none⟩), .pointer (some ⟨w.heap.size + 1, 0, none⟩), .pointer (some ⟨w.heap.size + 1 + 1, 0, none⟩), u5, u6, u7, u8, u9, u10, u11, u12, u13, u14, u15, u16, u17, u18, u19, u20, u21, u22, u23, u24, u25, u26, u27, u28, u29, u30, u31], defers := [] }) (fun _ _ => 0) rfl ?_ ?_
  · go_wp2_with fail
    generalize ((w.alloc (.cells #[.string ⟨#[]⟩, .int .i64 0, .int .i64 0, .slice none 0 0] 39)).alloc (.cells #[.string ⟨#[]⟩, .int .i64 0, .int .i64 0, .slice none 0 0] 39)).alloc (.cells #[.string (str l), .bool true] 80) = W0 at *
    refine (next_yes 32 (w.heap.size + 1 + 1) l a (p :: rest) W0 S0.out.c HC0.out hl).mono ?_
    rintro r0 w1 ⟨rfl, c1, k1, z1⟩
    have S1 := hide (S0.out.next c1 k1 z1)
    clear c1 k1 z1 S0
    go_wp2_with fail
    refine (readKind_yes a K u vp w1 (HG.out _ S1.out.below) HK.out).mono ?_
    rintro r1 w2 ⟨rfl, rfl⟩
    obtain ⟨⟨q0, q1, q2, q3⟩, qf⟩ := S1.out.m
    have qg := qf 1
    go_wp2_with fail
    have S2 := hide (S1.out.set 1 (.int .i64 K) (S1.out.m.set1 (.int .i64 K)))
    generalize w2.setCell ⟨w.heap.size + 1, 1, none⟩ (.int .i64 K) = W2 at *
    clear S1 q0 q1 q2 q3 qf qg
    have hd1 : decide ((p :: rest) ≠ ([] : List Bs)) = true := by simp
    rw [hd1] at S2
    have HN1 := hide (cut_next HC0.out (by simp) hl)
    clear hd1
    go_wp2_with fail
    refine (next_yes 32 (w.heap.size + 1 + 1) _ p rest W2 S2.out.c HN1.out.1 HN1.out.2).mono ?_
    rintro r2 w3 ⟨rfl, c3, k3, z3⟩
    have S3 := hide (S2.out.next c3 k3 z3)
    have hpl : p.length ≤ 2097152 := by
      have h2 := cutC_each (m := 32) l p (by rw [HC0.out]; simp)
      omega
    clear c3 k3 z3 S2
    go_wp2_with fail
    refine (cloneM (str p) w3 (by rw [str_size]; omega)).mono ?_
    rintro r3 w4 ⟨rfl, b4⟩
    have S4 := hide (S3.out.low b4)
    clear b4 S3
    obtain ⟨⟨q0, q1, q2, q3⟩, qf⟩ := S4.out.m
    have qg := qf 0
    go_wp2_with fail
    have S5 := hide (S4.out.set 0 (.string (str p)) (S4.out.m.set0 (.string (str p))))
    generalize w4.setCell ⟨w.heap.size + 1, 0, none⟩ (.string (str p)) = W5 at *
    clear S4 q0 q1 q2 q3 qf qg
    obtain ⟨⟨q0, q1, q2, q3⟩, qf⟩ := S5.out.m
    go_wp2_with fail
    go_step3
    exact ⟨rfl, _, _, _, _, _, _, _, _, _, _, _, _, _, _, _, _, _, _, _, _, _, _, _, _, _, _, _, _, _, S5.out, rfl⟩
  · rintro a' W ⟨rl, mo, u5, u6, u7, u8, u9, u10, u11, u12, u13, u14, u15, u16, u17, u18, u19, u20, u21, u22, u23, u24, u25, u26, u27, u28, u29, u30, u31, S, rfl⟩
    have H := hide S
    clear S
    obtain ⟨⟨q0, q1, q2, q3⟩, qf⟩ := H.out.m
    obtain ⟨⟨x0, x1, x2, x3⟩, xf⟩ := H.out.x
    have g0 := xf 0
    have g1 := xf 1
    have g2 := xf 2
    have g3 := xf 3
    go_wp2_with fail
    simp only [Exit.jump]
    refine bodyPost_ret (v := .agg #[.string (str p), .int .i64 K, .int .i64 0, .slice none 0 0]) (by simp [results, Tryz.results37, go_sem, x0, x1, x2, x3]) rfl ⟨rfl, H.out.out _ _ _ _⟩
set_option maxHeartbeats 3200000 in
theorem readEntry_d (l a p : Bs) (hc0 : cutC 32 l = [a, p]) (hk : kindW a = some 1) (u : TypeId) (vp : Value) (w : World) (hl : l.length ≤ 2097152) (hg : Gl w u vp) :
    Calls Tryz.prog 37 #[.string (str l)] w fun r w' => r = Dies u vp ∧ Below w.heap.size w w' := by
  have HC0 := hide hc0
  clear hc0
  have HK := hide hk
  clear hk
  have HG : Hid (∀ w' : World, Below w.heap.size w w' → Gl w' u vp) := hide (fun w' hb => hg.below hb)
  clear hg
  have S0 := hide (St.new w l 39 39 80)
  go_enter Tryz.func37, Tryz.ntmps37
  go_wp2_with fail
  go_step3
  go_wp2_with fail
  generalize ((w.alloc (.cells #[.string ⟨#[]⟩, .int .i64 0, .int .i64 0, .slice none 0 0] 39)).alloc (.cells #[.string ⟨#[]⟩, .int .i64 0, .int .i64 0, .slice none 0 0] 39)).alloc (.cells #[.string (str l), .bool true] 80) = W0 at *
  refine (next_yes 32 (w.heap.size + 1 + 1) l a [p] W0 S0.out.c HC0.out hl).mono ?_
  rintro r0 w1 ⟨rfl, c1, k1, z1⟩
  have S1 := hide (S0.out.next c1 k1 z1)
  clear c1 k1 z1 S0
  go_wp2_with fail
  refine (readKind_yes a 1 u vp w1 (HG.out _ S1.out.below) HK.out).mono ?_
  rintro r1 w2 ⟨rfl, rfl⟩
  obtain ⟨⟨q0, q1, q2, q3⟩, qf⟩ := S1.out.m
  have qg := qf 1
  go_wp2_with fail
  have S2 := hide (S1.out.set 1 (.int .i64 1) (S1.out.m.set1 (.int .i64 1)))
  generalize w2.setCell ⟨w.heap.size + 1, 1, none⟩ (.int .i64 1) = W2 at *
  clear S1 q0 q1 q2 q3 qf qg
  have hd1 : decide ((p :: []) ≠ ([] : List Bs)) = true := by simp
  rw [hd1] at S2
  have HN1 := hide (cut_next HC0.out (by simp) hl)
  clear hd1
  go_wp2_with fail
  refine (next_yes 32 (w.heap.size + 1 + 1) _ p [] W2 S2.out.c HN1.out.1 HN1.out.2).mono ?_
  rintro r2 w3 ⟨rfl, c3, k3, z3⟩
  have S3 := hide (S2.out.next c3 k3 z3)
  have hpl : p.length ≤ 2097152 := by
    have h2 := cutC_each (m := 32) l p (by rw [HC0.out]; simp)
    omega
  clear c3 k3 z3 S2
  go_wp2_with fail
  refine (cloneM (str p) w3 (by rw [str_size]; omega)).mono ?_
  rintro r3 w4 ⟨rfl, b4⟩
  have S4 := hide (S3.out.low b4)
  clear b4 S3
  obtain ⟨⟨q0, q1, q2, q3⟩, qf⟩ := S4.out.m
  have qg := qf 0
  go_wp2_with fail
  have S5 := hide (S4.out.set 0 (.string (str p)) (S4.out.m.set0 (.string (str p))))
  generalize w4.setCell ⟨w.heap.size + 1, 0, none⟩ (.string (str p)) = W5 at *
  clear S4 q0 q1 q2 q3 qf qg
  obtain ⟨⟨q0, q1, q2, q3⟩, qf⟩ := S5.out.m
  have hd2 : decide (([] : List Bs) ≠ []) = false := by simp
  rw [hd2] at S5
  clear hd2
  go_wp2_with fail
  refine (next_no (w.heap.size + 1 + 1) [] _ u vp W5 S5.out.c (HG.out _ S5.out.below).un).mono ?_
  rintro r4 w6 ⟨rfl, rfl⟩
  exact ⟨rfl, rfl, S5.out.below⟩
set_option maxHeartbeats 3200000 in
theorem readEntry_e (l a p n : Bs) (r' : List Bs) (hc0 : cutC 32 l = a :: p :: n :: r') (hk : kindW a = some 1) (hv : numW n = none) (u : TypeId) (vp : Value) (w : World) (hl : l.length ≤ 2097152) (hg : Gl w u vp) :
    Calls Tryz.prog 37 #[.string (str l)] w fun r w' => r = Dies u vp ∧ Below w.heap.size w w' := by
  have HC0 := hide hc0
  clear hc0
  have HK := hide hk
  clear hk
  have HV := hide hv
  clear hv
  have HG : Hid (∀ w' : World, Below w.heap.size w w' → Gl w' u vp) := hide (fun w' hb => hg.below hb)
  clear hg
  have S0 := hide (St.new w l 39 39 80)
  go_enter Tryz.func37, Tryz.ntmps37
  go_wp2_with fail
  go_step3
  go_wp2_with fail
  generalize ((w.alloc (.cells #[.string ⟨#[]⟩, .int .i64 0, .int .i64 0, .slice none 0 0] 39)).alloc (.cells #[.string ⟨#[]⟩, .int .i64 0, .int .i64 0, .slice none 0 0] 39)).alloc (.cells #[.string (str l), .bool true] 80) = W0 at *
  refine (next_yes 32 (w.heap.size + 1 + 1) l a (p :: n :: r') W0 S0.out.c HC0.out hl).mono ?_
  rintro r0 w1 ⟨rfl, c1, k1, z1⟩
  have S1 := hide (S0.out.next c1 k1 z1)
  clear c1 k1 z1 S0
  go_wp2_with fail
  refine (readKind_yes a 1 u vp w1 (HG.out _ S1.out.below) HK.out).mono ?_
  rintro r1 w2 ⟨rfl, rfl⟩
  obtain ⟨⟨q0, q1, q2, q3⟩, qf⟩ := S1.out.m
  have qg := qf 1
  go_wp2_with fail
  have S2 := hide (S1.out.set 1 (.int .i64 1) (S1.out.m.set1 (.int .i64 1)))
  generalize w2.setCell ⟨w.heap.size + 1, 1, none⟩ (.int .i64 1) = W2 at *
  clear S1 q0 q1 q2 q3 qf qg
  have hd1 : decide ((p :: (n :: r')) ≠ ([] : List Bs)) = true := by simp
  rw [hd1] at S2
  have HN1 := hide (cut_next HC0.out (by simp) hl)
  clear hd1
  go_wp2_with fail
  refine (next_yes 32 (w.heap.size + 1 + 1) _ p (n :: r') W2 S2.out.c HN1.out.1 HN1.out.2).mono ?_
  rintro r2 w3 ⟨rfl, c3, k3, z3⟩
  have S3 := hide (S2.out.next c3 k3 z3)
  have hpl : p.length ≤ 2097152 := by
    have h2 := cutC_each (m := 32) l p (by rw [HC0.out]; simp)
    omega
  clear c3 k3 z3 S2
  go_wp2_with fail
  refine (cloneM (str p) w3 (by rw [str_size]; omega)).mono ?_
  rintro r3 w4 ⟨rfl, b4⟩
  have S4 := hide (S3.out.low b4)
  clear b4 S3
  obtain ⟨⟨q0, q1, q2, q3⟩, qf⟩ := S4.out.m
  have qg := qf 0
  go_wp2_with fail
  have S5 := hide (S4.out.set 0 (.string (str p)) (S4.out.m.set0 (.string (str p))))
  generalize w4.setCell ⟨w.heap.size + 1, 0, none⟩ (.string (str p)) = W5 at *
  clear S4 q0 q1 q2 q3 qf qg
  obtain ⟨⟨q0, q1, q2, q3⟩, qf⟩ := S5.out.m
  have hd2 : decide ((n :: r') ≠ ([] : List Bs)) = true := by simp
  rw [hd2] at S5
  have HN2 := hide (cut_next HN1.out.1 (by simp) HN1.out.2)
  have hnl : n.length ≤ 2097152 := by
    have h2 := cutC_each (m := 32) l n (by rw [HC0.out]; simp)
    omega
  clear hd2
  go_wp2_with fail
  refine (next_yes 32 (w.heap.size + 1 + 1) _ n r' W5 S5.out.c HN2.out.1 HN2.out.2).mono ?_
  rintro r4 w6 ⟨rfl, c6, k6, z6⟩
  have S6 := hide (S5.out.next c6 k6 z6)
  clear c6 k6 z6 S5 q0 q1 q2 q3 qf
  go_wp2_with fail
  refine (readNumber_no n u vp w6 (HG.out _ S6.out.below) hnl HV.out).mono ?_
  rintro r5 w7 ⟨rfl, b7⟩
  exact ⟨rfl, rfl, below_next S6.out.below b7⟩
set_option maxHeartbeats 3200000 in
theorem readEntry_f (l a p n : Bs) (r' : List Bs) (V : Int) (hc0 : cutC 32 l = a :: p :: n :: r') (hk : kindW a = some 1) (hv : numW n = some V) (hr : joinC 32 r' = [45]) (u : TypeId) (vp : Value) (w : World) (hl : l.length ≤ 2097152) (hg : Gl w u vp) :
    Calls Tryz.prog 37 #[.string (str l)] w fun r w' => r = .returned (.agg #[.string (str p), .int .i64 1, .int .i64 V, .slice none 0 0]) ∧ Below w.heap.size w w' := by
  have HC0 := hide hc0
  clear hc0
  have HK := hide hk
  clear hk
  have HV := hide hv
  clear hv
  have HG : Hid (∀ w' : World, Below w.heap.size w w' → Gl w' u vp) := hide (fun w' hb => hg.below hb)
  clear hg
  have S0 := hide (St.new w l 39 39 80)
  go_enter Tryz.func37, Tryz.ntmps37
  go_wp2_with fail
  refine wp_scope_jumps 0 (fun a' W => ∃ (rl : Bs) (mo : Bool) (u5 u6 u7 u8 u9 u10 u11 u12 u13 u14 u15 u16 u17 u18 u19 u20 u21 u22 u23 u24 u25 u26 u27 u28 u29 u30 u31 : Value), St w W rl mo (.string (str p)) (.int .i64 1) (.int .i64 V) (.slice none 0 0) ∧ a' = { tmps := #[.string (str l), undef, .pointer (some ⟨w.heap.size, 0, none⟩), .pointer (some ⟨w.heap.size + 1, 0, none⟩), .pointer (some ⟨w.heap.size + 1 + 1, 0, none⟩), u5, u6, u7, u8, u9, u10, u11, u12, u13, u14, u15, u16, u17, u18, u19, u20, u21, u22, u23, u24, u25, u26, u27, u28, u29, u30, u31], defers := [] }) (fun _ _ => 0) rfl ?_ ?_
  · go_wp2_with fail
    generalize ((w.alloc (.cells #[.string ⟨#[]⟩, .int .i64 0, .int .i64 0, .slice none 0 0] 39)).alloc (.cells #[.string ⟨#[]⟩, .int .i64 0, .int .i64 0, .slice none 0 0] 39)).alloc (.cells #[.string (str l), .bool true] 80) = W0 at *
    refine (next_yes 32 (w.heap.size + 1 + 1) l a (p :: n :: r') W0 S0.out.c HC0.out hl).mono ?_
    rintro r0 w1 ⟨rfl, c1, k1, z1⟩
    have S1 := hide (S0.out.next c1 k1 z1)
    clear c1 k1 z1 S0
    go_wp2_with fail
    refine (readKind_yes a 1 u vp w1 (HG.out _ S1.out.below) HK.out).mono ?_
    rintro r1 w2 ⟨rfl, rfl⟩
    obtain ⟨⟨q0, q1, q2, q3⟩, qf⟩ := S1.out.m
    have qg := qf 1
    go_wp2_with fail
    have S2 := hide (S1.out.set 1 (.int .i64 1) (S1.out.m.set1 (.int .i64 1)))
    generalize w2.setCell ⟨w.heap.size + 1, 1, none⟩ (.int .i64 1) = W2 at *
    clear S1 q0 q1 q2 q3 qf qg
    have hd1 : decide ((p :: (n :: r')) ≠ ([] : List Bs)) = true := by simp
    rw [hd1] at S2
    have HN1 := hide (cut_next HC0.out (by simp) hl)
    clear hd1
    go_wp2_with fail
    refine (next_yes 32 (w.heap.size + 1 + 1) _ p (n :: r') W2 S2.out.c HN1.out.1 HN1.out.2).mono ?_
    rintro r2 w3 ⟨rfl, c3, k3, z3⟩
    have S3 := hide (S2.out.next c3 k3 z3)
    have hpl : p.length ≤ 2097152 := by
      have h2 := cutC_each (m := 32) l p (by rw [HC0.out]; simp)
      omega
    clear c3 k3 z3 S2
    go_wp2_with fail
    refine (cloneM (str p) w3 (by rw [str_size]; omega)).mono ?_
    rintro r3 w4 ⟨rfl, b4⟩
    have S4 := hide (S3.out.low b4)
    clear b4 S3
    obtain ⟨⟨q0, q1, q2, q3⟩, qf⟩ := S4.out.m
    have qg := qf 0
    go_wp2_with fail
    have S5 := hide (S4.out.set 0 (.string (str p)) (S4.out.m.set0 (.string (str p))))
    generalize w4.setCell ⟨w.heap.size + 1, 0, none⟩ (.string (str p)) = W5 at *
    clear S4 q0 q1 q2 q3 qf qg
    obtain ⟨⟨q0, q1, q2, q3⟩, qf⟩ := S5.out.m
    have hd2 : decide ((n :: r') ≠ ([] : List Bs)) = true := by simp
    rw [hd2] at S5
    have HN2 := hide (cut_next HN1.out.1 (by simp) HN1.out.2)
    have hnl : n.length ≤ 2097152 := by
      have h2 := cutC_each (m := 32) l n (by rw [HC0.out]; simp)
      omega
    clear hd2
    go_wp2_with fail
    refine (next_yes 32 (w.heap.size + 1 + 1) _ n r' W5 S5.out.c HN2.out.1 HN2.out.2).mono ?_
    rintro r4 w6 ⟨rfl, c6, k6, z6⟩
    have S6 := hide (S5.out.next c6 k6 z6)
    clear c6 k6 z6 S5 q0 q1 q2 q3 qf
    rw [hr] at S6
    go_wp2_with fail
    refine (readNumber_yes n V w6 hnl HV.out).mono ?_
    rintro r5 w7 ⟨rfl, b7⟩
    have S7 := hide (S6.out.low b7)
    clear b7 S6
    obtain ⟨⟨q0, q1, q2, q3⟩, qf⟩ := S7.out.m
    have qg := qf 2
    obtain ⟨⟨c0, c1⟩, c2, c3⟩ := S7.out.c
    rw [show str [45] = (⟨#[45]⟩ : ByteArray) from rfl] at c0
    go_wp2_with fail
    have S8 := hide (S7.out.set 2 (.int .i64 V) (S7.out.m.set2 (.int .i64 V)))
    generalize w7.setCell ⟨w.heap.size + 1, 2, none⟩ (.int .i64 V) = W8 at *
    clear S7 q0 q1 q2 q3 qf qg c0 c1 c2 c3
    go_step3
    exact ⟨rfl, _, _, _, _, _, _, _, _, _, _, _, _, _, _, _, _, _, _, _, _, _, _, _, _, _, _, _, _, _, S8.out, rfl⟩
  · rintro a' W ⟨rl, mo, u5, u6, u7, u8, u9, u10, u11, u12, u13, u14, u15, u16, u17, u18, u19, u20, u21, u22, u23, u24, u25, u26, u27, u28, u29, u30, u31, S, rfl⟩
    have H := hide S
    clear S
    obtain ⟨⟨q0, q1, q2, q3⟩, qf⟩ := H.out.m
    obtain ⟨⟨x0, x1, x2, x3⟩, xf⟩ := H.out.x
    have g0 := xf 0
    have g1 := xf 1
    have g2 := xf 2
    have g3 := xf 3
    go_wp2_with fail
    simp only [Exit.jump]
    refine bodyPost_ret (v := .agg #[.string (str p), .int .i64 1, .int .i64 V, .slice none 0 0]) (by simp [results, Tryz.results37, go_sem, x0, x1, x2, x3]) rfl ⟨rfl, H.out.out _ _ _ _⟩
end Go.Proofs.YtlbccbikepkfiaaGreatDoor

namespace Go.Proofs.YtlbccbikepkfiaaGreatDoor
open Go.RowKit
set_option linter.unusedVariables false
set_option maxRecDepth 100000

theorem noDash {l : Bs} (h : l ≠ [45]) : ((str l).toList == [45]) = false := by
  rw [ByteArray.toList_eq, str_data, beq_eq_false_iff_ne]; exact h
theorem noDashB {l : Bs} (h : l ≠ [45]) : ((str l).toList == (⟨#[45]⟩ : ByteArray).toList) = false := strNo (b := [45]) h
/-- What stands at the label: done digests in a row of its own, words that are left. -/
structure AtC (w W : World) (p : Bs) (V : Int) (r0 ws : List Bs) (done : List Int) (av : Option Addr) (cv : Nat) : Prop where
  st : St w W (joinC 44 ws) true (.string (str p)) (.int .i64 1) (.int .i64 V) (.slice av done.length cv)
  own : W.ownsRow (w.heap.size + 3) 2 1 (.slice av done.length cv) done.length (done.map (Value.int .i64))
  cut : cutC 44 (joinC 44 ws) = ws
  len : (joinC 44 ws).length ≤ 2097152
  some : ws ≠ []
  num : done.length + ws.length ≤ 2097153
  eq : r0.mapM hexW = (ws.mapM hexW).map (done ++ ·)
set_option maxHeartbeats 3200000 in
theorem readEntry_g (l a p n : Bs) (V : Int) (hc0 : cutC 32 l = [a, p, n]) (hk : kindW a = some 1) (hv : numW n = some V) (u : TypeId) (vp : Value) (w : World) (hl : l.length ≤ 2097152) (hg : Gl w u vp) :
    Calls Tryz.prog 37 #[.string (str l)] w fun r w' => r = Dies u vp ∧ Below w.heap.size w w' := by
  have hr : joinC 32 [] ≠ [45] := by decide
  have HC0 := hide hc0
  clear hc0
  have HK := hide hk
  clear hk
  have HV := hide hv
  clear hv
  have HG : Hid (∀ w' : World, Below w.heap.size w w' → Gl w' u vp) := hide (fun w' hb => hg.below hb)
  clear hg
  have S0 := hide (St.new w l 39 39 80)
  go_enter Tryz.func37, Tryz.ntmps37
  go_wp2_with fail
  go_step3
  go_wp2_with fail
  generalize ((w.alloc (.cells #[.string ⟨#[]⟩, .int .i64 0, .int .i64 0, .slice none 0 0] 39)).alloc (.cells #[.string ⟨#[]⟩, .int .i64 0, .int .i64 0, .slice none 0 0] 39)).alloc (.cells #[.string (str l), .bool true] 80) = W0 at *
  refine (next_yes 32 (w.heap.size + 1 + 1) l a [p, n] W0 S0.out.c HC0.out hl).mono ?_
  rintro r0 w1 ⟨rfl, c1, k1, z1⟩
  have S1 := hide (S0.out.next c1 k1 z1)
  clear c1 k1 z1 S0
  go_wp2_with fail
  refine (readKind_yes a 1 u vp w1 (HG.out _ S1.out.below) HK.out).mono ?_
  rintro r1 w2 ⟨rfl, rfl⟩
  obtain ⟨⟨q0, q1, q2, q3⟩, qf⟩ := S1.out.m
  have qg := qf 1
  go_wp2_with fail
  have S2 := hide (S1.out.set 1 (.int .i64 1) (S1.out.m.set1 (.int .i64 1)))
  generalize w2.setCell ⟨w.heap.size + 1, 1, none⟩ (.int .i64 1) = W2 at *
  clear S1 q0 q1 q2 q3 qf qg
  have hd1 : decide ((p :: [n]) ≠ ([] : List Bs)) = true := by simp
  rw [hd1] at S2
  have HN1 := hide (cut_next HC0.out (by simp) hl)
  clear hd1
  go_wp2_with fail
  refine (next_yes 32 (w.heap.size + 1 + 1) _ p [n] W2 S2.out.c HN1.out.1 HN1.out.2).mono ?_
  rintro r2 w3 ⟨rfl, c3, k3, z3⟩
  have S3 := hide (S2.out.next c3 k3 z3)
  have hpl : p.length ≤ 2097152 := by
    have h2 := cutC_each (m := 32) l p (by rw [HC0.out]; simp)
    omega
  clear c3 k3 z3 S2
  go_wp2_with fail
  refine (cloneM (str p) w3 (by rw [str_size]; omega)).mono ?_
  rintro r3 w4 ⟨rfl, b4⟩
  have S4 := hide (S3.out.low b4)
  clear b4 S3
  obtain ⟨⟨q0, q1, q2, q3⟩, qf⟩ := S4.out.m
  have qg := qf 0
  go_wp2_with fail
  have S5 := hide (S4.out.set 0 (.string (str p)) (S4.out.m.set0 (.string (str p))))
  generalize w4.setCell ⟨w.heap.size + 1, 0, none⟩ (.string (str p)) = W5 at *
  clear S4 q0 q1 q2 q3 qf qg
  obtain ⟨⟨q0, q1, q2, q3⟩, qf⟩ := S5.out.m
  have hd2 : decide ([n] ≠ ([] : List Bs)) = true := by simp
  rw [hd2] at S5
  have HN2 := hide (cut_next HN1.out.1 (by simp) HN1.out.2)
  have hnl : n.length ≤ 2097152 := by
    have h2 := cutC_each (m := 32) l n (by rw [HC0.out]; simp)
    omega
  clear hd2
  go_wp2_with fail
  refine (next_yes 32 (w.heap.size + 1 + 1) _ n [] W5 S5.out.c HN2.out.1 HN2.out.2).mono ?_
  rintro r4 w6 ⟨rfl, c6, k6, z6⟩
  have S6 := hide (S5.out.next c6 k6 z6)
  clear c6 k6 z6 S5 q0 q1 q2 q3 qf
  go_wp2_with fail
  refine (readNumber_yes n V w6 hnl HV.out).mono ?_
  rintro r5 w7 ⟨rfl, b7⟩
  have S7 := hide (S6.out.low b7)
  clear b7 S6
  obtain ⟨⟨q0, q1, q2, q3⟩, qf⟩ := S7.out.m
  have qg := qf 2
  obtain ⟨⟨c0, c1⟩, c2, c3⟩ := S7.out.c
  have hd3 := noDash hr
  have hd4 := noDashB hr
  go_wp2_with fail
  have S8 := hide (S7.out.set 2 (.int .i64 V) (S7.out.m.set2 (.int .i64 V)))
  generalize w7.setCell ⟨w.heap.size + 1, 2, none⟩ (.int .i64 V) = W8 at *
  clear S7 q0 q1 q2 q3 qf qg c0 c1 c2 c3
  have hd5 : decide (([] : List Bs) ≠ []) = false := by simp
  rw [hd5] at S8
  clear hd5
  go_step3
  obtain ⟨⟨q0, q1, q2, q3⟩, qf⟩ := S8.out.m
  have HNX := hide (fun (u' : World) (hu : Below W8.heap.size W8 u') => next_no (w.heap.size + 1 + 1) [] ⟨#[44]⟩ u vp u' (S8.out.c.below hu) (HG.out _ (below_next S8.out.below hu)).un)
  go_wp2_with fail
  refine wp_region_any (by kernel_rfl) ?_
  change wpAny _ _ _ _ _ _ _ (World.drew _)
  refine wpAny_take (i := 0) (v := .pointer (some ⟨w.heap.size + 1, 3, none⟩)) rfl (by kernel_rfl) (by kernel_rfl) (by kernel_rfl) (fun _ _ _ h => h) (Or.inl ⟨by rfl, ?_⟩) ?_
  · intro w
    go_simp
  refine wpAny_ready (rs := [1, 2]) (by kernel_rfl) (by simp) ?_
  refine AllReady.cons rfl (fun K hK => ?_) ?_
  · go_simp
    refine hK _ _ ?_
    clear hK K
    refine wpAny_ready (rs := [2]) (by kernel_rfl) (by simp) ?_
    refine AllReady.cons rfl (fun K hK => ?_) AllReady.nil
    go_simp
    go_wp2_with fail
    refine (HNX.out _ (Below.refl _ _).drew).mono ?_
    rintro r w9 ⟨rfl, rfl⟩
    exact ⟨rfl, rfl, S8.out.below.drew⟩
  refine AllReady.cons rfl (fun K hK => ?_) AllReady.nil
  go_simp
  go_wp2_with fail
  refine (HNX.out _ (Below.refl _ _).drew).mono ?_
  rintro r w9 ⟨rfl, rfl⟩
  exact ⟨rfl, rfl, S8.out.below.drew⟩
theorem keptFour (W : World) (b : Nat) (y0 y1 y2 y3 : Value) : Kept (fun x => x = b) W ((((W.setCell ⟨b, 0, none⟩ y0).setCell ⟨b, 1, none⟩ y1).setCell ⟨b, 2, none⟩ y2).setCell ⟨b, 3, none⟩ y3) :=
  Kept.setCell (S := fun x => x = b) (p := ⟨b, 3, none⟩) (Kept.setCell (S := fun x => x = b) (p := ⟨b, 2, none⟩) (Kept.setCell (S := fun x => x = b) (p := ⟨b, 1, none⟩) (Kept.setCell (S := fun x => x = b) (p := ⟨b, 0, none⟩) (Kept.refl _ _) (fun _ => rfl) _) (fun _ => rfl) _) (fun _ => rfl) _) (fun _ => rfl) _
set_option maxHeartbeats 6400000 in
theorem readEntry_h (l a p n : Bs) (r' : List Bs) (r0 : List Bs) (V : Int) (hc0 : cutC 32 l = a :: p :: n :: r') (hk : kindW a = some 1) (hv : numW n = some V) (hr : joinC 32 r' ≠ [45]) (hne : r' ≠ []) (h0 : r0 = cutC 44 (joinC 32 r')) (u : TypeId) (vp : Value) (w : World) (hl : l.length ≤ 2097152) (hg : Gl w u vp) :
    Calls Tryz.prog 37 #[.string (str l)] w fun r w' => (match r0.mapM hexW with | some ds => ∃ av cv, r = .returned (.agg #[.string (str p), .int .i64 1, .int .i64 V, .slice av ds.length cv]) ∧ w'.ownsRow w.heap.size 2 1 (.slice av ds.length cv) ds.length (ds.map (Value.int .i64)) | none => r = Dies u vp) ∧ Below w.heap.size w w' := by
  have HC0 := hide hc0
  clear hc0
  have HK := hide hk
  clear hk
  have HV := hide hv
  clear hv
  have HG : Hid (∀ w' : World, Below w.heap.size w w' → Gl w' u vp) := hide (fun w' hb => hg.below hb)
  clear hg
  have S0 := hide (St.new w l 39 39 80)
  go_enter Tryz.func37, Tryz.ntmps37
  go_wp2_with fail
  refine wp_scope_jumps 1 (fun a' W => ∃ (ws : List Bs) (done : List Int) (av : Option Addr) (cv : Nat) (u5 u6 u7 u8 u9 u10 u11 u12 u13 u14 u15 u16 u17 u18 u19 u20 u21 u22 u23 u24 u25 u26 u27 u28 u29 u30 u31 : Value), AtC w W p V r0 ws done av cv ∧ a' = { tmps := #[.string (str l), undef, .pointer (some ⟨w.heap.size, 0, none⟩), .pointer (some ⟨w.heap.size + 1, 0, none⟩), .pointer (some ⟨w.heap.size + 1 + 1, 0, none⟩), u5, u6, u7, u8, u9, u10, u11, u12, u13, u14, u15, u16, u17, u18, u19, u20, u21, u22, u23, u24, u25, u26, u27, u28, u29, u30, u31], defers := [] }) (fun _ W => leftM (w.heap.size + 1 + 1) W) rfl ?_ ?_
  · go_wp2_with fail
    generalize ((w.alloc (.cells #[.string ⟨#[]⟩, .int .i64 0, .int .i64 0, .slice none 0 0] 39)).alloc (.cells #[.string ⟨#[]⟩, .int .i64 0, .int .i64 0, .slice none 0 0] 39)).alloc (.cells #[.string (str l), .bool true] 80) = W0 at *
    refine (next_yes 32 (w.heap.size + 1 + 1) l a (p :: n :: r') W0 S0.out.c HC0.out hl).mono ?_
    rintro r0 w1 ⟨rfl, c1, k1, z1⟩
    have S1 := hide (S0.out.next c1 k1 z1)
    clear c1 k1 z1 S0
    go_wp2_with fail
    refine (readKind_yes a 1 u vp w1 (HG.out _ S1.out.below) HK.out).mono ?_
    rintro r1 w2 ⟨rfl, rfl⟩
    obtain ⟨⟨q0, q1, q2, q3⟩, qf⟩ := S1.out.m
    have qg := qf 1
    go_wp2_with fail
    have S2 := hide (S1.out.set 1 (.int .i64 1) (S1.out.m.set1 (.int .i64 1)))
    generalize w2.setCell ⟨w.heap.size + 1, 1, none⟩ (.int .i64 1) = W2 at *
    clear S1 q0 q1 q2 q3 qf qg
    have hd1 : decide ((p :: (n :: r')) ≠ ([] : List Bs)) = true := by simp
    rw [hd1] at S2
    have HN1 := hide (cut_next HC0.out (by simp) hl)
    clear hd1
    go_wp2_with fail
    refine (next_yes 32 (w.heap.size + 1 + 1) _ p (n :: r') W2 S2.out.c HN1.out.1 HN1.out.2).mono ?_
    rintro r2 w3 ⟨rfl, c3, k3, z3⟩
    have S3 := hide (S2.out.next c3 k3 z3)
    have hpl : p.length ≤ 2097152 := by
      have h2 := cutC_each (m := 32) l p (by rw [HC0.out]; simp)
      omega
    clear c3 k3 z3 S2
    go_wp2_with fail
    refine (cloneM (str p) w3 (by rw [str_size]; omega)).mono ?_
    rintro r3 w4 ⟨rfl, b4⟩
    have S4 := hide (S3.out.low b4)
    clear b4 S3
    obtain ⟨⟨q0, q1, q2, q3⟩, qf⟩ := S4.out.m
    have qg := qf 0
    go_wp2_with fail
    have S5 := hide (S4.out.set 0 (.string (str p)) (S4.out.m.set0 (.string (str p))))
    generalize w4.setCell ⟨w.heap.size + 1, 0, none⟩ (.string (str p)) = W5 at *
    clear S4 q0 q1 q2 q3 qf qg
    obtain ⟨⟨q0, q1, q2, q3⟩, qf⟩ := S5.out.m
    have hd2 : decide ((n :: r') ≠ ([] : List Bs)) = true := by simp
    rw [hd2] at S5
    have HN2 := hide (cut_next HN1.out.1 (by simp) HN1.out.2)
    have hnl : n.length ≤ 2097152 := by
      have h2 := cutC_each (m := 32) l n (by rw [HC0.out]; simp)
      omega
    clear hd2
    go_wp2_with fail
    refine (next_yes 32 (w.heap.size + 1 + 1) _ n r' W5 S5.out.c HN2.out.1 HN2.out.2).mono ?_
    rintro r4 w6 ⟨rfl, c6, k6, z6⟩
    have S6 := hide (S5.out.next c6 k6 z6)
    clear c6 k6 z6 S5 q0 q1 q2 q3 qf
    go_wp2_with fail
    refine (readNumber_yes n V w6 hnl HV.out).mono ?_
    rintro r5 w7 ⟨rfl, b7⟩
    have S7 := hide (S6.out.low b7)
    clear b7 S6
    obtain ⟨⟨q0, q1, q2, q3⟩, qf⟩ := S7.out.m
    have qg := qf 2
    obtain ⟨⟨c0, c1⟩, c2, c3⟩ := S7.out.c
    have hd3 := noDash hr
    have hd4 := noDashB hr
    go_wp2_with fail
    have S8 := hide (S7.out.set 2 (.int .i64 V) (S7.out.m.set2 (.int .i64 V)))
    generalize w7.setCell ⟨w.heap.size + 1, 2, none⟩ (.int .i64 V) = W8 at *
    clear S7 q0 q1 q2 q3 qf qg c0 c1 c2 c3
    have hdn : decide (r' ≠ []) = true := by simp [hne]
    rw [hdn] at S8
    have hN := (cut_next HN2.out.1 hne HN2.out.2).2
    have hY := joinC_cut 44 (joinC 32 r')
    rw [← h0] at hY
    have hcl := cutC_length (m := 44) (joinC 32 r')
    rw [← h0] at hcl
    have hL : AtC w W8 p V r0 r0 [] none 0 := ⟨by rw [hY]; exact S8.out, World.ownsRow_nil _ _ _ _, by rw [hY]; exact h0.symm, by rw [hY]; exact hN, by rw [h0]; exact cutC_ne _ _, by simp; omega, by cases r0.mapM hexW <;> simp⟩
    clear hdn hN hY hcl hd3 hd4
    obtain ⟨done, av, cv, hL⟩ : ∃ done av cv, AtC w W8 p V r0 r0 done av cv := ⟨[], none, 0, hL⟩
    obtain ⟨ws, hws⟩ : ∃ ws, ws = r0 := ⟨_, rfl⟩
    have hL : AtC w W8 p V r0 ws done av cv := by rw [hws]; exact hL
    clear hws h0
    go_step3
    have H := hide hL
    clear hL
    obtain ⟨w0, rs, rfl⟩ : ∃ w0 rs, ws = w0 :: rs := by
      cases ws with
      | nil => exact absurd rfl H.out.some
      | cons a b => exact ⟨a, b, rfl⟩
    obtain ⟨i0, hi0, hz0, hz1, hz2⟩ := info_parts Tryz.infoI64
    obtain ⟨⟨q0, q1, q2, q3⟩, qf⟩ := H.out.st.m
    have hnum := H.out.num
    simp only [List.length_cons] at hnum
    have hsz := H.out.st.size
    have hm1 : done.length + 1 ≤ maxLen := by unfold maxLen; omega
    have hm2 : (done.length + 1) * 8 ≤ 140737488355328 := by omega
    have OL := hide H.out.own.lt
    cases hx : hexW w0 with
    | none =>
      have HX := hide hx
      have HE := hide (show r0.mapM hexW = none by rw [H.out.eq]; simp [List.mapM_cons, hx])
      clear hx
      go_wp2_with fail
      refine wp_region_any (by kernel_rfl) ?_
      change wpAny _ _ _ _ _ _ _ (World.drew _)
      refine wpAny_take (i := 0) (v := .pointer (some ⟨w.heap.size + 1, 3, none⟩)) rfl (by kernel_rfl) (by kernel_rfl) (by kernel_rfl) (fun _ _ _ h => h) (Or.inl ⟨by rfl, ?_⟩) ?_
      · intro w
        go_simp
      refine wpAny_ready (rs := [1, 2]) (by kernel_rfl) (by simp) ?_
      refine AllReady.cons rfl (fun K hK => ?_) ?_
      · go_simp
        refine hK _ _ ?_
        clear hK K
        refine wpAny_ready (rs := [2]) (by kernel_rfl) (by simp) ?_
        refine AllReady.cons rfl (fun K hK => ?_) AllReady.nil
        go_simp
        go_wp2_with fail
        refine (next_yes 44 (w.heap.size + 1 + 1) (joinC 44 (w0 :: rs)) w0 rs _ (H.out.st.c.below (Below.refl _ _).drew) H.out.cut H.out.len).mono ?_
        rintro r w5 ⟨rfl, c5, k5, z5⟩
        have S5 := hide ((H.out.st.low (Below.refl _ _).drew).next c5 k5 z5)
        have cm5 := S5.out.m.four.2.2.2
        clear c5 k5 z5
        refine hK _ _ ?_
        clear hK K
        refine wpAny_ready (rs := [3]) (by kernel_rfl) (by simp) ?_
        refine AllReady.cons rfl (fun K hK => ?_) AllReady.nil
        go_simp
        go_wp2_with fail
        refine (readDigest_no w0 u vp w5 HX.out (fun w' hb => (HG.out _ (below_next S5.out.below hb)).un)).mono ?_
        rintro r w6 ⟨rfl, b6⟩
        refine ⟨rfl, ?_, below_next S5.out.below b6⟩
        rw [HE.out]
      refine AllReady.cons rfl (fun K hK => ?_) AllReady.nil
      go_simp
      go_wp2_with fail
      refine (next_yes 44 (w.heap.size + 1 + 1) (joinC 44 (w0 :: rs)) w0 rs _ (H.out.st.c.below (Below.refl _ _).drew) H.out.cut H.out.len).mono ?_
      rintro r w5 ⟨rfl, c5, k5, z5⟩
      have S5 := hide ((H.out.st.low (Below.refl _ _).drew).next c5 k5 z5)
      have cm5 := S5.out.m.four.2.2.2
      clear c5 k5 z5
      refine hK _ _ ?_
      clear hK K
      refine wpAny_ready (rs := [1, 3]) (by kernel_rfl) (by simp) ?_
      refine AllReady.cons rfl (fun K hK => ?_) ?_
      · go_simp
        refine hK _ _ ?_
        clear hK K
        refine wpAny_ready (rs := [3]) (by kernel_rfl) (by simp) ?_
        refine AllReady.cons rfl (fun K hK => ?_) AllReady.nil
        go_simp
        go_wp2_with fail
        refine (readDigest_no w0 u vp w5 HX.out (fun w' hb => (HG.out _ (below_next S5.out.below hb)).un)).mono ?_
        rintro r w6 ⟨rfl, b6⟩
        refine ⟨rfl, ?_, below_next S5.out.below b6⟩
        rw [HE.out]
      refine AllReady.cons rfl (fun K hK => ?_) AllReady.nil
      go_simp
      go_wp2_with fail
      refine (readDigest_no w0 u vp w5 HX.out (fun w' hb => (HG.out _ (below_next S5.out.below hb)).un)).mono ?_
      rintro r w6 ⟨rfl, b6⟩
      refine ⟨rfl, ?_, below_next S5.out.below b6⟩
      rw [HE.out]
    | some d =>
      have HX := hide hx
      clear hx
      go_wp2_with fail
      go_region_law
        ((first
          | (have hO6 := O6; clear hO6; refine step_app (by rfl) (.tmp 23) (.tmp 26) 37 (by rfl) (w.heap.size + 3) 2 i0 (.int .i64 0) 1 8 Tryz.underlying37 hi0 hz0 hz1 hz2 rfl (by decide) (.slice av done.length cv) done.length (done.map (Value.int .i64)) (by rfl) (O6.out.alloc _) ⟨w6.heap.size, 0, none⟩ 1 1 [.int .i64 d] (by rfl) (by rfl) (news_int w6 d 2) (by intro u hu; simp at hu; subst hu; rfl) (done.length + 1) rfl hm1 hm2 (by simp; omega) ?_; intro av7 cv7 w7 hown7 hk7; have O7 := hide hown7; have K7 := hide hk7; have M7 := hide ((S6.out.m.below (below_alloc w6 (.cells #[.int .i64 d] 2))).kept hk7 (fun hq => by have := OL.out _ hq; omega)); obtain ⟨⟨-, -, -, e1⟩, ef⟩ := M7.out; have e3 := ef 3; clear hown7 hk7 ef)
          | (go_simp; go_wp2_with (first | (go_at_call 47; refine (next_yes 44 (w.heap.size + 1 + 1) (joinC 44 (w0 :: rs)) w0 rs _ (H.out.st.c.below (Below.refl _ _).drew) H.out.cut H.out.len).mono ?_; rintro r w5 ⟨rfl, c5, k5, z5⟩; have S5 := hide ((H.out.st.low (Below.refl _ _).drew).next c5 k5 z5); have O5 := hide (ownsRow_kept (ownsRow_below H.out.own (Below.refl _ _).drew) k5 (fun b hb e => by have := OL.out b hb; omega)); have cm5 := S5.out.m.four.2.2.2; clear c5 k5 z5) | (go_at_call 68; refine (readDigest_yes w0 d _ HX.out).mono ?_; rintro r w6 ⟨rfl, b6⟩; have S6 := hide (S5.out.low b6); have O6 := hide (ownsRow_below O5.out b6); have z7 : w.heap.size + 3 ≤ w6.heap.size := S6.out.size; have cm6 := S6.out.m.four.2.2.2; have cm7 : ∀ o, (w6.alloc o).cell? ⟨w.heap.size + 1, 3, none⟩ = some (.slice av done.length cv) := (fun o => (S6.out.low (below_alloc w6 o)).m.four.2.2.2); clear b6)))))
      all_goals
        have A6 := hide (S6.out.low (below_alloc w6 (.cells #[.int .i64 d] 2)))
        have S7 : Hid (St w w7 (joinC 44 rs) (decide (rs ≠ [])) (.string (str p)) (.int .i64 1) (.int .i64 V) (.slice av done.length cv)) := hide ⟨A6.out.x.kept K7.out (fun hq => by have := OL.out _ hq; omega), M7.out, A6.out.c.kept K7.out (fun hq => by have := OL.out _ hq; omega), Kept.below_own (B := w.heap.size) A6.out.below (by have := A6.out.size; omega) (ownsRow_mono (O6.out.alloc (.cells #[.int .i64 d] 2)) (by omega)) K7.out, by have h1 := K7.out.size; have h2 := A6.out.size; omega⟩
        have S8 := hide (S7.out.set 3 (.slice av7 (done.length + 1) cv7) (S7.out.m.set3 (.slice av7 (done.length + 1) cv7)))
        have O8 := hide (ownsRow_kept O7.out (keptCell w7 (w.heap.size + 1) 3 (.slice av7 (done.length + 1) cv7)) (fun b hb e => by have := O7.out.lt b hb; omega))
        have hdl : (done ++ [d]).length = done.length + 1 := by simp
        generalize w7.setCell ⟨w.heap.size + 1, 3, none⟩ (.slice av7 (done.length + 1) cv7) = W9 at *
        clear S7 A6 K7 M7 O7 O6 S6 O5 S5 cm5 cm6 cm7 e1 e3 q0 q1 q2 q3 qf
        by_cases hrs : rs = []
        · have hdf : decide (rs ≠ []) = false := by simp [hrs]
          rw [hdf] at S8
          have HE := hide (show r0.mapM hexW = some (done ++ [d]) by rw [H.out.eq, hrs]; simp [HX.out])
          obtain ⟨⟨c0, c1⟩, c2, c3⟩ := S8.out.c
          obtain ⟨⟨p0, p1, p2, p3⟩, pf⟩ := S8.out.m
          obtain ⟨⟨x0, x1, x2, x3⟩, xf⟩ := S8.out.x
          have g0 := xf 0
          have g1 := xf 1
          have g2 := xf 2
          have g3 := xf 3
          go_wp2_with fail
          first | (simp only [Exit.jump]; done) | (go_step3; go_wp2_with fail; simp only [Exit.jump]) | (simp only [Exit.jump]) | (trace_state; fail)
          refine bodyPost_ret (v := .agg #[.string (str p), .int .i64 1, .int .i64 V, .slice av7 (done.length + 1) cv7]) (by simp [results, Tryz.results37, go_sem, x0, x1, x2, x3]) rfl ⟨?_, S8.out.out _ _ _ _⟩
          rw [HE.out]
          refine ⟨av7, cv7, by rw [hdl], ?_⟩
          rw [hdl, List.map_append]
          exact ownsRow_mono (ownsRow_kept O8.out (keptFour W9 w.heap.size _ _ _ _) (fun b hb e => by have := O8.out.lt b hb; omega)) (by omega)
        · have hdf : decide (rs ≠ []) = true := by simp [hrs]
          rw [hdf] at S8
          obtain ⟨hja, -, hjc⟩ := cut_more H.out.cut hrs
          obtain ⟨⟨c0, c1⟩, c2, c3⟩ := S8.out.c
          have hjl := congrArg List.length hja
          simp only [List.length_append, List.length_cons] at hjl
          have HJ := hide (show AtC w W9 p V r0 rs (done ++ [d]) av7 cv7 from ⟨by rw [hdl]; exact S8.out, by rw [hdl, List.map_append]; exact O8.out, hjc, by have := H.out.len; omega, hrs, by simp; omega, by rw [H.out.eq]; simp only [List.mapM_cons, HX.out]; cases rs.mapM hexW <;> simp⟩)
          clear hjl hja hjc
          go_wp2_with fail
          go_step3
          exact ⟨rfl, ⟨rs, done ++ [d], av7, cv7, _, _, _, _, _, _, _, _, _, _, _, _, _, _, _, _, _, _, _, _, _, _, _, _, _, _, _, HJ.out, rfl⟩⟩
  · rintro a' W ⟨ws, done, av, cv, u5, u6, u7, u8, u9, u10, u11, u12, u13, u14, u15, u16, u17, u18, u19, u20, u21, u22, u23, u24, u25, u26, u27, u28, u29, u30, u31, hL, rfl⟩
    have H := hide hL
    clear hL h0
    obtain ⟨w0, rs, rfl⟩ : ∃ w0 rs, ws = w0 :: rs := by
      cases ws with
      | nil => exact absurd rfl H.out.some
      | cons a b => exact ⟨a, b, rfl⟩
    obtain ⟨i0, hi0, hz0, hz1, hz2⟩ := info_parts Tryz.infoI64
    obtain ⟨⟨q0, q1, q2, q3⟩, qf⟩ := H.out.st.m
    have hnum := H.out.num
    simp only [List.length_cons] at hnum
    have hsz := H.out.st.size
    have hm1 : done.length + 1 ≤ maxLen := by unfold maxLen; omega
    have hm2 : (done.length + 1) * 8 ≤ 140737488355328 := by omega
    have OL := hide H.out.own.lt
    cases hx : hexW w0 with
    | none =>
      have HX := hide hx
      have HE := hide (show r0.mapM hexW = none by rw [H.out.eq]; simp [List.mapM_cons, hx])
      clear hx
      go_wp2_with fail
      refine wp_region_any (by kernel_rfl) ?_
      change wpAny _ _ _ _ _ _ _ (World.drew _)
      refine wpAny_take (i := 0) (v := .pointer (some ⟨w.heap.size + 1, 3, none⟩)) rfl (by kernel_rfl) (by kernel_rfl) (by kernel_rfl) (fun _ _ _ h => h) (Or.inl ⟨by rfl, ?_⟩) ?_
      · intro w
        go_simp
      refine wpAny_ready (rs := [1, 2]) (by kernel_rfl) (by simp) ?_
      refine AllReady.cons rfl (fun K hK => ?_) ?_
      · go_simp
        refine hK _ _ ?_
        clear hK K
        refine wpAny_ready (rs := [2]) (by kernel_rfl) (by simp) ?_
        refine AllReady.cons rfl (fun K hK => ?_) AllReady.nil
        go_simp
        go_wp2_with fail
        refine (next_yes 44 (w.heap.size + 1 + 1) (joinC 44 (w0 :: rs)) w0 rs _ (H.out.st.c.below (Below.refl _ _).drew) H.out.cut H.out.len).mono ?_
        rintro r w5 ⟨rfl, c5, k5, z5⟩
        have S5 := hide ((H.out.st.low (Below.refl _ _).drew).next c5 k5 z5)
        have cm5 := S5.out.m.four.2.2.2
        clear c5 k5 z5
        refine hK _ _ ?_
        clear hK K
        refine wpAny_ready (rs := [3]) (by kernel_rfl) (by simp) ?_
        refine AllReady.cons rfl (fun K hK => ?_) AllReady.nil
        go_simp
        go_wp2_with fail
        refine (readDigest_no w0 u vp w5 HX.out (fun w' hb => (HG.out _ (below_next S5.out.below hb)).un)).mono ?_
        rintro r w6 ⟨rfl, b6⟩
        refine ⟨rfl, ?_, below_next S5.out.below b6⟩
        rw [HE.out]
      refine AllReady.cons rfl (fun K hK => ?_) AllReady.nil
      go_simp
      go_wp2_with fail
      refine (next_yes 44 (w.heap.size + 1 + 1) (joinC 44 (w0 :: rs)) w0 rs _ (H.out.st.c.below (Below.refl _ _).drew) H.out.cut H.out.len).mono ?_
      rintro r w5 ⟨rfl, c5, k5, z5⟩
      have S5 := hide ((H.out.st.low (Below.refl _ _).drew).next c5 k5 z5)
      have cm5 := S5.out.m.four.2.2.2
      clear c5 k5 z5
      refine hK _ _ ?_
      clear hK K
      refine wpAny_ready (rs := [1, 3]) (by kernel_rfl) (by simp) ?_
      refine AllReady.cons rfl (fun K hK => ?_) ?_
      · go_simp
        refine hK _ _ ?_
        clear hK K
        refine wpAny_ready (rs := [3]) (by kernel_rfl) (by simp) ?_
        refine AllReady.cons rfl (fun K hK => ?_) AllReady.nil
        go_simp
        go_wp2_with fail
        refine (readDigest_no w0 u vp w5 HX.out (fun w' hb => (HG.out _ (below_next S5.out.below hb)).un)).mono ?_
        rintro r w6 ⟨rfl, b6⟩
        refine ⟨rfl, ?_, below_next S5.out.below b6⟩
        rw [HE.out]
      refine AllReady.cons rfl (fun K hK => ?_) AllReady.nil
      go_simp
      go_wp2_with fail
      refine (readDigest_no w0 u vp w5 HX.out (fun w' hb => (HG.out _ (below_next S5.out.below hb)).un)).mono ?_
      rintro r w6 ⟨rfl, b6⟩
      refine ⟨rfl, ?_, below_next S5.out.below b6⟩
      rw [HE.out]
    | some d =>
      have HX := hide hx
      clear hx
      go_wp2_with fail
      go_region_law
        ((first
          | (have hO6 := O6; clear hO6; refine step_app (by rfl) (.tmp 23) (.tmp 26) 37 (by rfl) (w.heap.size + 3) 2 i0 (.int .i64 0) 1 8 Tryz.underlying37 hi0 hz0 hz1 hz2 rfl (by decide) (.slice av done.length cv) done.length (done.map (Value.int .i64)) (by rfl) (O6.out.alloc _) ⟨w6.heap.size, 0, none⟩ 1 1 [.int .i64 d] (by rfl) (by rfl) (news_int w6 d 2) (by intro u hu; simp at hu; subst hu; rfl) (done.length + 1) rfl hm1 hm2 (by simp; omega) ?_; intro av7 cv7 w7 hown7 hk7; have O7 := hide hown7; have K7 := hide hk7; have M7 := hide ((S6.out.m.below (below_alloc w6 (.cells #[.int .i64 d] 2))).kept hk7 (fun hq => by have := OL.out _ hq; omega)); obtain ⟨⟨-, -, -, e1⟩, ef⟩ := M7.out; have e3 := ef 3; clear hown7 hk7 ef)
          | (go_simp; go_wp2_with (first | (go_at_call 47; refine (next_yes 44 (w.heap.size + 1 + 1) (joinC 44 (w0 :: rs)) w0 rs _ (H.out.st.c.below (Below.refl _ _).drew) H.out.cut H.out.len).mono ?_; rintro r w5 ⟨rfl, c5, k5, z5⟩; have S5 := hide ((H.out.st.low (Below.refl _ _).drew).next c5 k5 z5); have O5 := hide (ownsRow_kept (ownsRow_below H.out.own (Below.refl _ _).drew) k5 (fun b hb e => by have := OL.out b hb; omega)); have cm5 := S5.out.m.four.2.2.2; clear c5 k5 z5) | (go_at_call 68; refine (readDigest_yes w0 d _ HX.out).mono ?_; rintro r w6 ⟨rfl, b6⟩; have S6 := hide (S5.out.low b6); have O6 := hide (ownsRow_below O5.out b6); have z7 : w.heap.size + 3 ≤ w6.heap.size := S6.out.size; have cm6 := S6.out.m.four.2.2.2; have cm7 : ∀ o, (w6.alloc o).cell? ⟨w.heap.size + 1, 3, none⟩ = some (.slice av done.length cv) := (fun o => (S6.out.low (below_alloc w6 o)).m.four.2.2.2); clear b6)))))
      all_goals
        have A6 := hide (S6.out.low (below_alloc w6 (.cells #[.int .i64 d] 2)))
        have S7 : Hid (St w w7 (joinC 44 rs) (decide (rs ≠ [])) (.string (str p)) (.int .i64 1) (.int .i64 V) (.slice av done.length cv)) := hide ⟨A6.out.x.kept K7.out (fun hq => by have := OL.out _ hq; omega), M7.out, A6.out.c.kept K7.out (fun hq => by have := OL.out _ hq; omega), Kept.below_own (B := w.heap.size) A6.out.below (by have := A6.out.size; omega) (ownsRow_mono (O6.out.alloc (.cells #[.int .i64 d] 2)) (by omega)) K7.out, by have h1 := K7.out.size; have h2 := A6.out.size; omega⟩
        have S8 := hide (S7.out.set 3 (.slice av7 (done.length + 1) cv7) (S7.out.m.set3 (.slice av7 (done.length + 1) cv7)))
        have O8 := hide (ownsRow_kept O7.out (keptCell w7 (w.heap.size + 1) 3 (.slice av7 (done.length + 1) cv7)) (fun b hb e => by have := O7.out.lt b hb; omega))
        have hdl : (done ++ [d]).length = done.length + 1 := by simp
        generalize w7.setCell ⟨w.heap.size + 1, 3, none⟩ (.slice av7 (done.length + 1) cv7) = W9 at *
        clear S7 A6 K7 M7 O7 O6 S6 O5 S5 cm5 cm6 cm7 e1 e3 q0 q1 q2 q3 qf
        by_cases hrs : rs = []
        · have hdf : decide (rs ≠ []) = false := by simp [hrs]
          rw [hdf] at S8
          have HE := hide (show r0.mapM hexW = some (done ++ [d]) by rw [H.out.eq, hrs]; simp [HX.out])
          obtain ⟨⟨c0, c1⟩, c2, c3⟩ := S8.out.c
          obtain ⟨⟨p0, p1, p2, p3⟩, pf⟩ := S8.out.m
          obtain ⟨⟨x0, x1, x2, x3⟩, xf⟩ := S8.out.x
          have g0 := xf 0
          have g1 := xf 1
          have g2 := xf 2
          have g3 := xf 3
          go_wp2_with fail
          first | (simp only [Exit.jump]; done) | (go_step3; go_wp2_with fail; simp only [Exit.jump]) | (simp only [Exit.jump]) | (trace_state; fail)
          refine bodyPost_ret (v := .agg #[.string (str p), .int .i64 1, .int .i64 V, .slice av7 (done.length + 1) cv7]) (by simp [results, Tryz.results37, go_sem, x0, x1, x2, x3]) rfl ⟨?_, S8.out.out _ _ _ _⟩
          rw [HE.out]
          refine ⟨av7, cv7, by rw [hdl], ?_⟩
          rw [hdl, List.map_append]
          exact ownsRow_mono (ownsRow_kept O8.out (keptFour W9 w.heap.size _ _ _ _) (fun b hb e => by have := O8.out.lt b hb; omega)) (by omega)
        · have hdf : decide (rs ≠ []) = true := by simp [hrs]
          rw [hdf] at S8
          obtain ⟨hja, -, hjc⟩ := cut_more H.out.cut hrs
          obtain ⟨⟨c0, c1⟩, c2, c3⟩ := S8.out.c
          have hcm : leftM (w.heap.size + 1 + 1) W9 = (joinC 44 rs).length := by unfold leftM; rw [c0]; exact str_size _
          have hcw : leftM (w.heap.size + 1 + 1) W = (joinC 44 (w0 :: rs)).length := by unfold leftM; rw [H.out.st.c.1.1]; exact str_size _
          have hjl := congrArg List.length hja
          simp only [List.length_append, List.length_cons] at hjl
          have HJ := hide (show AtC w W9 p V r0 rs (done ++ [d]) av7 cv7 from ⟨by rw [hdl]; exact S8.out, by rw [hdl, List.map_append]; exact O8.out, hjc, by have := H.out.len; omega, hrs, by simp; omega, by rw [H.out.eq]; simp only [List.mapM_cons, HX.out]; cases rs.mapM hexW <;> simp⟩)
          have HM := hide (show leftM (w.heap.size + 1 + 1) W9 < leftM (w.heap.size + 1 + 1) W by rw [hcm, hcw]; omega)
          clear hcm hcw
          clear hjl hja hjc
          go_wp2_with fail
          go_step3
          exact ⟨rfl, ⟨rs, done ++ [d], av7, cv7, _, _, _, _, _, _, _, _, _, _, _, _, _, _, _, _, _, _, _, _, _, _, _, _, _, _, _, HJ.out, rfl⟩, HM.out⟩
end Go.Proofs.YtlbccbikepkfiaaGreatDoor

namespace Go.Proofs.YtlbccbikepkfiaaGreatDoor
open Go.RowKit
set_option linter.unusedVariables false

theorem indexOne_any (s : ByteArray) (w : World) :
    Calls Tryz.prog 119 #[.string s, .string ⟨#[47]⟩] w fun e w' => e = .returned (.int .i64 (Lib.indexByte s.data.toList 47)) ∧ w' = w :=
  Any.stringslite_Index_one Tryz.indexA s 47 w

theorem index_miss {l : Bs} (h : (47 : UInt8) ∉ l) : Lib.indexByte l 47 = -1 := by
  induction l with
  | nil => rfl
  | cons c l ih =>
    have h1 : ¬ c = 47 := fun e => h (by simp [e])
    have h2 : (47 : UInt8) ∉ l := fun e => h (by simp [e])
    simp [Lib.indexByte, h1, ih h2]
theorem index_hit {a : Bs} (b : Bs) (h : (47 : UInt8) ∉ a) : Lib.indexByte (a ++ 47 :: b) 47 = a.length := by
  induction a with
  | nil => simp [Lib.indexByte]
  | cons c a ih =>
    have h1 : ¬ c = 47 := fun e => h (by simp [e])
    have h2 : (47 : UInt8) ∉ a := fun e => h (by simp [e])
    have ih := ih h2
    simp only [List.cons_append, Lib.indexByte, ih]
    have : ((a.length : Int) == -1) = false := by simp
    simp [h1, this]

set_option maxRecDepth 100000 in
set_option maxHeartbeats 800000 in
theorem cutLite_miss (l : Bs) (w : World) (h : (47 : UInt8) ∉ l) :
    Calls Tryz.prog 107 #[.string (str l), .string ⟨#[47]⟩] w fun e w' => e = .returned (.tuple #[.string (str l), .string ⟨#[]⟩, .bool false]) ∧ ∃ n, w' = w.drewN n := by
  have HI := hide (index_miss h)
  go_enter Tryz.func107, Tryz.ntmps107
  go_wp2_with (go_at_call 119; refine (indexOne_any _ _).mono ?_; rintro e w' ⟨rfl, rfl⟩; rw [str_data, HI.out])
  go_ret3
  exact ⟨rfl, 0, rfl⟩
theorem cut_miss (l : Bs) (w : World) (h : (47 : UInt8) ∉ l) :
    Calls Tryz.prog 77 #[.string (str l), .string ⟨#[47]⟩] w fun e w' => e = .returned (.tuple #[.string (str l), .string ⟨#[]⟩, .bool false]) ∧ ∃ n, w' = w.drewN n := by
  go_enter Tryz.func77, Tryz.ntmps77
  go_wp2_with (go_at_call 107; refine (cutLite_miss _ _ h).mono ?_; rintro e w' ⟨rfl, n, rfl⟩)
  go_ret3
  exact ⟨rfl, n, rfl⟩
set_option maxRecDepth 100000 in
set_option maxHeartbeats 800000 in
theorem cutLite_hit (a b : Bs) (w : World) (h : (47 : UInt8) ∉ a) (hl : a.length ≤ 9223372036854775806) :
    Calls Tryz.prog 107 #[.string (str (a ++ 47 :: b)), .string ⟨#[47]⟩] w fun e w' => e = .returned (.tuple #[.string (str a), .string (str b), .bool true]) ∧ ∃ n, w' = w.drewN n := by
  have HI := hide (index_hit b h)
  have c0 : (0 : Int) ≤ a.length := by omega
  have c1 : (a.length : Int) ≤ ((str (a ++ 47 :: b)).size : Int) := by rw [str_size]; simp; omega
  have c2 : (a.length : Int) + 1 ≤ ((str (a ++ 47 :: b)).size : Int) := by rw [str_size]; simp; omega
  have HA := hide (show (str (a ++ 47 :: b)).extract 0 a.length = str a by rw [Lib.extract_eq, str_data]; simp [str])
  have HB := hide (show (str (a ++ 47 :: b)).extract (a.length + 1) (str (a ++ 47 :: b)).size = str b by rw [Lib.extract_eq, str_data, str_size, show (a ++ 47 :: b).drop (a.length + 1) = b by simp, List.take_of_length_le (by simp; omega)]; rfl)
  have hm : (a.length : Int) ≤ 9223372036854775806 := by omega
  generalize hx : str (a ++ 47 :: b) = x at *
  have HX := hide hx
  clear hx
  go_enter Tryz.func107, Tryz.ntmps107
  go_wp2_with (go_at_call 119; refine (indexOne_any _ _).mono ?_; rintro e w' ⟨rfl, rfl⟩; rw [← HX.out, str_data, HI.out, HX.out])
  go_region
  go_wp2
  go_ret3
  exact ⟨by rw [HA.out, HB.out]; rfl, 1, rfl⟩
theorem cut_hit (a b : Bs) (w : World) (h : (47 : UInt8) ∉ a) (hl : a.length ≤ 9223372036854775806) :
    Calls Tryz.prog 77 #[.string (str (a ++ 47 :: b)), .string ⟨#[47]⟩] w fun e w' => e = .returned (.tuple #[.string (str a), .string (str b), .bool true]) ∧ ∃ n, w' = w.drewN n := by
  go_enter Tryz.func77, Tryz.ntmps77
  go_wp2_with (go_at_call 107; refine (cutLite_hit _ _ _ h hl).mono ?_; rintro e w' ⟨rfl, n, rfl⟩)
  go_ret3
  exact ⟨rfl, n, rfl⟩

theorem prefix_yes {l r : Bs} (h : l = 47 :: r) : Lib.hasPrefix l [47] = true ∧ Lib.trimPrefix l [47] = r := by
  subst h
  have e : Lib.hasPrefix (47 :: r) [47] = true := by simp [Lib.hasPrefix]
  exact ⟨e, by simp [Lib.trimPrefix, e]⟩
theorem prefix_no {l : Bs} (h : ∀ r, l ≠ 47 :: r) : Lib.hasPrefix l [47] = false := by
  cases l with
  | nil => rfl
  | cons c r =>
    have hc : c ≠ 47 := fun e => h r (by rw [e])
    have : ((47 : UInt8) == c) = false := by simpa using Ne.symm hc
    simp only [Lib.hasPrefix, List.isPrefixOf, this, Bool.false_and]

theorem cutPrefix_yes (s : ByteArray) (r : Bs) (w : World) (h : s.data.toList = 47 :: r) :
    Calls Tryz.prog 88 #[.string s, .string ⟨#[47]⟩] w fun e w' => e = .returned (.tuple #[.string (str r), .bool true]) ∧ w' = w := by
  have := Any.strings_CutPrefix Tryz.prefixA s ⟨#[47]⟩ w
  have e1 := (prefix_yes h).1
  have e2 := (prefix_yes h).2
  simp only [e1, e2] at this
  exact this
theorem cutPrefix_no (s : ByteArray) (w : World) (h : ∀ r, s.data.toList ≠ 47 :: r) :
    Calls Tryz.prog 88 #[.string s, .string ⟨#[47]⟩] w fun e w' => (∃ x, e = .returned (.tuple #[.string x, .bool false])) ∧ w' = w := by
  have := Any.strings_CutPrefix Tryz.prefixA s ⟨#[47]⟩ w
  have e1 := prefix_no h
  simp only [e1] at this
  exact this.mono fun e w' ⟨h1, h2⟩ => ⟨⟨_, h1⟩, h2⟩

theorem join_tail : ∀ (r : List Bs), Lib.joinTail [47] r = joinB r
  | [] => rfl
  | n :: r => by
    have ih := join_tail r
    simp only [Lib.joinTail, List.map_cons, List.flatten_cons, List.cons_append, List.nil_append, joinB] at ih ⊢
    rw [ih]
theorem join_lib {ps : List Bs} (h : ps ≠ []) : joinB ps = 47 :: Lib.join ps [47] := by
  cases ps with
  | nil => exact absurd rfl h
  | cons n r => rw [Lib.join_cons, join_tail]; rfl
theorem join_ge : ∀ (ps : List Bs), ps.length ≤ (joinB ps).length
  | [] => by simp
  | p :: ps => by have := join_ge ps; simp [joinB]; omega
theorem map_str (ps : List Bs) : (ps.map str).map (fun x => x.data.toList) = ps := by
  rw [List.map_map]
  conv => rhs; rw [← List.map_id ps]
  apply List.map_congr_left
  intro p _
  exact str_data p

theorem joinLib_any (a : Option Addr) (c n : Nat) (ps : List Bs) (w : World) (h : ReadsS w a ps) (hne : ps ≠ []) (hn : n = ps.length) (hc : n ≤ c) (hl : (joinB ps).length ≤ 140737488355328) :
    Calls Tryz.prog 31 #[.slice a n c, .string ⟨#[47]⟩] w fun e w' => e = .returned (.string (str (joinB ps).tail)) ∧ Below w.heap.size w w' := by
  obtain ⟨b, off, rfl, hb, hcell⟩ := h hne
  have hlj := join_lib hne
  have hpl := join_ge ps
  have := Any.strings_Join Tryz.joinA Tryz.joinX b off c (ps.map str) ⟨#[47]⟩ w
    (fun j x hx => by
      rw [List.getElem?_map] at hx
      cases e : ps[j]? with
      | none => rw [e] at hx; simp at hx
      | some p =>
        rw [e] at hx
        simp at hx
        obtain ⟨hj, _⟩ := List.getElem?_eq_some_iff.1 e
        rw [hcell j hj, ← hx]
        simp [List.getD_eq_getElem?_getD, e])
    hb (by simp; omega) (by simp; omega)
    (by rw [map_str]; rw [hlj] at hl; simp only [List.length_cons] at hl; show (Lib.join ps [47]).length ≤ _; omega)
  rw [map_str, List.length_map, ← hn] at this
  rw [hlj, List.tail_cons]
  exact this

theorem clone_str (s : ByteArray) (w : World) (hl : s.size ≤ 281474976710656) :
    Calls Tryz.prog 66 #[.string s] w fun e w' => e = .returned (.string s) ∧ Below w.heap.size w w' := by
  have H := hide (fun w => Any.stringslite_Clone Tryz.cloneA s w hl)
  go_enter Tryz.func66, Tryz.ntmps66
  go_wp2_with fail
  refine (H.out _).mono ?_
  rintro e w1 ⟨rfl, hb1⟩
  go_wp2_with fail
  go_ret
  exact ⟨rfl, hb1⟩


end Go.Proofs.YtlbccbikepkfiaaGreatDoor

namespace Go.Proofs.YtlbccbikepkfiaaGreatDoor
open Go.RowKit Go.Shelf
set_option linter.unusedVariables false
attribute [local go_sem] Oper.semAt_some

/-- A piece: a text of a bounded length. -/
abbrev Pc := { p : Bs // p.length ≤ 2097152 }
def pcs (ps : List Pc) : List Bs := ps.map Subtype.val
theorem pcs_snoc (ps : List Pc) (x : Pc) : pcs (ps ++ [x]) = pcs ps ++ [x.1] := by simp [pcs]
theorem pcs_length (ps : List Pc) : (pcs ps).length = ps.length := by simp [pcs]

def szOf : Value → Nat
  | .string s => s.size
  | _ => 0
def bitOf : Value → Nat
  | .bool true => 1
  | _ => 0
theorem grown_drewN (w : World) (n : Nat) : w.grownBy (w.drewN n) none := ⟨rfl, rfl, rfl, Nat.le_refl _, fun _ _ _ => rfl⟩

theorem cut_cases (r : Bs) : (47 : UInt8) ∉ r ∨ ∃ a b, r = a ++ 47 :: b ∧ (47 : UInt8) ∉ a := by
  induction r with
  | nil => exact .inl (by simp)
  | cons c r ih =>
    by_cases hc : c = 47
    · exact .inr ⟨[], r, by simp [hc], by simp⟩
    · rcases ih with h | ⟨a, b, h, ha⟩
      · exact .inl (by simp [h, Ne.symm hc])
      · exact .inr ⟨c :: a, b, by simp [h], by simp [ha, Ne.symm hc]⟩

set_option maxRecDepth 100000 in
set_option maxHeartbeats 2000000 in
/-- The closure: for every loop body that keeps what lay below n₀. -/
theorem pieces1_in (n : Nat) (l Bn n₀ : Nat) (t : Bs) (ht : t.length ≤ 2097152) (J Jx : List Pc → World → Prop) (B : Nat) (hJ : AbidesFrom B J)
    (hY : ∀ (pre : List Pc) (x : Pc) W, J pre W → pre.length < (cutB t).length → YieldAt Fence.wide (n - 1) Tryz.prog l #[.string (str x.1)] W fun e W' =>
      (e = .returned (.bool true) ∧ J (pre ++ [x]) W' ∧ Below n₀ W W') ∨ (e = .returned (.bool false) ∧ Jx (pre ++ [x]) W'))
    (W : World) (hBn : W.cell? ⟨Bn, 0, none⟩ = some (.string (str t))) (h0 : J [] W) :
    CallsIn Fence.wide n Tryz.prog 111 #[.func (.yield l) #[] #[], .pointer (some ⟨Bn, 0, none⟩)] W fun e W' => (∃ v, e = .returned v) ∧
      ((∃ ys, pcs ys = cutB t ∧ J ys W') ∨ (∃ pre, pcs pre <+: cutB t ∧ Jx pre W')) := by
  refine callsIn_of_wp Tryz.func111 rfl trivial ?_ rfl
  simp only [Tryz.ntmps111, List.size_toArray, List.length_cons, List.length_nil, Nat.reduceAdd, Nat.reduceSub, Array.replicate_succ, Array.replicate_zero, List.push_toArray, List.append_toArray, List.nil_append, List.cons_append]
  gi_wp2
  gi_loopw [3, 4] (fun r m wr => ∃ (pre : List Pc) (q : Bs) (more : Bool), r = .string (str q) ∧ m = .bool more ∧ q.length ≤ 2097152 ∧ Hid (cutB t = pcs pre ++ (if more then cutB q else [])) ∧ Hid (J pre wr)) (fun r m _ => bitOf m * (szOf r + 1))
  case atStart => exact ⟨[], t, true, rfl, rfl, ht, hide rfl, hide h0⟩
  case round =>
    obtain ⟨pre, q, more, rfl, rfl, hq, HC, HJ⟩ := hrel
    cases more with
    | false =>
      gi_wp2
      go_end0
      exact ⟨⟨_, rfl⟩, .inl ⟨pre, by have := HC.out; simpa using this.symm, HJ.out⟩⟩
    | true =>
      have HC' := hide (show cutB t = pcs pre ++ cutB q from HC.out)
      rcases cut_cases q with hm | ⟨a, b, hqe, ha⟩
      · have HE := hide (cutB_miss hm)
        have hlen : pre.length < (cutB t).length := by rw [HC'.out, HE.out]; simp [pcs]
        gi_wp2_with fail
        refine ⟨trivial, fun h => (by cases h), ?_⟩
        refine (callsIn_wide.2 (cut_miss q _ hm)).mono ?_
        rintro e w' ⟨rfl, k, rfl⟩
        obtain ⟨fn, tmps, assign, body, hy, hR⟩ := hY pre ⟨q, hq⟩ (wr.drewN k) (hJ _ _ _ none HJ.out (grown_drewN _ _) (fun r e => by cases e)) hlen
        dsimp only at hy
        gi_wp2_with fail
        refine ⟨fun h => (by cases h), hR.mono ?_⟩
        clear hR hy
        rintro e W3 (⟨rfl, hJ3, hk3⟩ | ⟨rfl, hJx3⟩)
        · have H3 := hide hJ3
          clear hJ3 hk3
          gi_wp2_with fail
          go_roundw
          case rel => exact ⟨pre ++ [⟨q, hq⟩], [], false, rfl, rfl, by simp, hide (by rw [HC'.out, HE.out, pcs_snoc]; simp), H3⟩
          case measure => simp [bitOf]
        · have H3 := hide hJx3
          clear hJx3
          gi_wp2_with fail
          refine bodyPost_ret (results_none rfl _ _ _) rfl ?_
          exact ⟨⟨_, rfl⟩, .inr ⟨pre ++ [⟨q, hq⟩], ⟨[], by rw [HC'.out, HE.out, pcs_snoc]; simp⟩, H3.out⟩⟩
      · have hql : q.length = a.length + (b.length + 1) := by rw [hqe]; simp
        have hal : a.length ≤ 2097152 := by omega
        have HE := hide (show cutB q = a :: cutB b by rw [hqe]; exact cutB_hit b ha)
        have hlen : pre.length < (cutB t).length := by rw [HC'.out, HE.out]; simp [pcs]
        have HQ := hide (cut_hit a b wr ha (by omega))
        rw [← hqe] at HQ
        have hbl : b.length < q.length := by omega
        clear hqe hql
        gi_wp2_with fail
        refine ⟨trivial, fun h => (by cases h), ?_⟩
        refine (callsIn_wide.2 HQ.out).mono ?_
        rintro e w' ⟨rfl, k, rfl⟩
        obtain ⟨fn, tmps, assign, body, hy, hR⟩ := hY pre ⟨a, hal⟩ (wr.drewN k) (hJ _ _ _ none HJ.out (grown_drewN _ _) (fun r e => by cases e)) hlen
        dsimp only at hy
        gi_wp2_with fail
        refine ⟨fun h => (by cases h), hR.mono ?_⟩
        clear hR hy
        rintro e W3 (⟨rfl, hJ3, hk3⟩ | ⟨rfl, hJx3⟩)
        · have H3 := hide hJ3
          clear hJ3 hk3
          gi_wp2_with fail
          go_roundw
          case rel => exact ⟨pre ++ [⟨a, hal⟩], b, true, rfl, rfl, by omega, hide (by rw [HC'.out, HE.out, pcs_snoc]; simp), H3⟩
          case measure => simp [bitOf, szOf, str_size]; omega
        · have H3 := hide hJx3
          clear hJx3
          gi_wp2_with fail
          refine bodyPost_ret (results_none rfl _ _ _) rfl ?_
          exact ⟨⟨_, rfl⟩, .inr ⟨pre ++ [⟨a, hal⟩], ⟨cutB b, by rw [HC'.out, HE.out, pcs_snoc]; simp⟩, H3.out⟩⟩

set_option maxHeartbeats 1000000 in
/-- piecesOf: the text is boxed; the function value captures the box. -/
theorem piecesOf_in (s : ByteArray) (w : World) :
    Calls Tryz.prog 89 #[.string s] w fun e w' => e = .returned (.func (.func 111) #[] #[.pointer (some ⟨w.heap.size, 0, none⟩)]) ∧ w' = w.alloc (.cells #[.string s] 9) := by
  go_enter Tryz.func89, Tryz.ntmps89
  go_wp2
  go_ret
  exact ⟨rfl, rfl⟩

/-- What is ranged over. -/
theorem pieces_stops (n : Nat) (Bn n₀ : Nat) (t : Bs) (ht : t.length ≤ 2097152) (w : World) (hBn : Bn < w.heap.size) (hc : w.cell? ⟨Bn, 0, none⟩ = some (.string (str t))) :
    SeqStopsK Fence.wide n Tryz.prog 111 #[.pointer (some ⟨Bn, 0, none⟩)] (fun x : Pc => #[Value.string (str x.1)]) (Below n₀) (fun ys => pcs ys = cutB t) (fun pre => pcs pre <+: cutB t) (cutB t).length w := fun l J Jx W hW hJ _ hY h0 =>
  pieces1_in n l Bn n₀ t ht J Jx _ hJ hY W ((hW.cell (p := ⟨Bn, 0, none⟩) hBn).trans hc) h0

end Go.Proofs.YtlbccbikepkfiaaGreatDoor

namespace Go.Proofs.YtlbccbikepkfiaaGreatDoor
open Go.RowKit Go.Shelf
set_option linter.unusedVariables false
attribute [local go_sem] Oper.semAt_some

theorem wpIn_scope_wide {n : Nat} {P : Program} {c : Code} {Q : Exit → Act → World → Prop} {a : Act} {w : World} (h : c.wpIn Fence.wide n P (Exit.noGoto Q) a w) : (Code.scope c).wpIn Fence.wide n P Q a w :=
  wpIn_wide.2 (wp_scope_straight (wpIn_wide.1 h))

theorem faultP_not {l : Bs} (h : ∀ r, l ≠ 47 :: r) : faultP l = 5 := by
  cases l with
  | nil => rfl
  | cons c r =>
    have hc : c ≠ 47 := fun e => h r (by rw [e])
    simp [faultP, hc]
theorem stroke_cases (l : Bs) : (∃ r, l = 47 :: r) ∨ ∀ r, l ≠ 47 :: r := by
  by_cases h : ∃ r, l = 47 :: r
  · exact .inl h
  · exact .inr fun r e => h ⟨r, e⟩

/-- The code of plain pieces so far. -/
def cd (ps : List Bs) : Int := if ps.all (fun n => decide (n.length ≤ 4)) && decide (ps.length ≤ 3) then 0 else 2
theorem cd_nil : cd [] = 0 := rfl
theorem cd_bad (ps : List Bs) (x : Bs) (h : 4 < x.length ∨ 3 < ps.length + 1) : cd (ps ++ [x]) = 2 := by
  have : ((ps ++ [x]).all (fun n => decide (n.length ≤ 4)) && decide ((ps ++ [x]).length ≤ 3)) = false := by
    rw [Bool.and_eq_false_iff]
    rcases h with h | h
    · left; simp; intro _; omega
    · right; simp; omega
  simp only [cd, this]; rfl
theorem cd_good (ps : List Bs) (x : Bs) (h : ¬ 4 < x.length) (h2 : ¬ 3 < ps.length + 1) : cd (ps ++ [x]) = cd ps := by
  have e1 : decide (x.length ≤ 4) = true := by simp; omega
  have e2 : decide ((ps ++ [x]).length ≤ 3) = true := by simp; omega
  have e3 : decide (ps.length ≤ 3) = true := by simp; omega
  simp only [cd, List.all_append, List.all_cons, List.all_nil, e1, e2, e3, Bool.and_true]
theorem cd_fault {ns : List Bs} (h : ns.all plain = true) : faultN ns = cd ns := by simp only [faultN, h, if_true, cd]
theorem fault_of_prefix {ns ps : List Bs} (h : ps <+: ns) (hp : ps.all plain = false) : faultN ns = 5 := by
  obtain ⟨q, rfl⟩ := h
  simp [faultN, hp]

set_option maxRecDepth 100000 in
set_option maxHeartbeats 2000000 in
theorem implPathFault_no (s : ByteArray) (w : World) (h : ∀ r, s.data.toList ≠ 47 :: r) :
    Calls Tryz.prog 55 #[.string s] w fun e w' => e = .returned (.int .i64 5) ∧ Below w.heap.size w w' := by
  refine (callsIn_wide (n := 4)).1 ?_
  refine callsIn_of_wp_marks Tryz.func55 rfl trivial ?_ rfl
  simp only [Tryz.ntmps55, List.size_toArray, List.length_cons, List.length_nil, Nat.reduceAdd, Nat.reduceSub, Array.replicate_succ, Array.replicate_zero, List.push_toArray, List.append_toArray, List.nil_append, List.cons_append]
  gi_wp2_with fail
  refine wpIn_scope_wide ?_
  gi_wp2_with fail
  refine ⟨trivial, ?_⟩
  refine (callsIn_wide.2 (cutPrefix_no s _ h)).mono ?_
  rintro e w' ⟨⟨x, rfl⟩, rfl⟩
  gi_wp2_with fail
  exact ⟨_, results_tmp rfl _ _ _, rfl, Below.refl _ _⟩

set_option maxRecDepth 100000 in
set_option maxHeartbeats 2000000 in
theorem implPathFault_yes (s : ByteArray) (r : Bs) (w : World) (h : s.data.toList = 47 :: r) (hs : s.size ≤ 2097152) :
    Calls Tryz.prog 55 #[.string s] w fun e w' => e = .returned (.int .i64 (faultN (cutB r))) ∧ Below w.heap.size w w' := by
  refine (callsIn_wide (n := 4)).1 ?_
  refine callsIn_of_wp_marks Tryz.func55 rfl trivial ?_ rfl
  simp only [Tryz.ntmps55, List.size_toArray, List.length_cons, List.length_nil, Nat.reduceAdd, Nat.reduceSub, Array.replicate_succ, Array.replicate_zero, List.push_toArray, List.append_toArray, List.nil_append, List.cons_append]
  gi_wp2_with fail
  refine wpIn_scope_wide ?_
  gi_wp2_with fail
  refine ⟨trivial, ?_⟩
  refine (callsIn_wide.2 (cutPrefix_yes s r _ h)).mono ?_
  rintro e w' ⟨rfl, rfl⟩
  gi_wp2_with fail
  refine wpIn_label ?_
  gi_wp2_with fail
  refine ⟨trivial, ?_⟩
  refine (callsIn_wide.2 (piecesOf_in _ _)).mono ?_
  rintro e w1 ⟨rfl, rfl⟩
  gi_wp2_with fail
  have hrl : r.length ≤ 2097152 := by have := congrArg List.length h; rw [← Lib.size_eq] at this; simp at this; omega
  have hcl := cutB_length r
  have bC := Boxed.new w' 2 (.int .i64 0)
  have bN := Boxed.new (w'.alloc (.cells #[.int .i64 0] 2)) 3 (.int .i64 0)
  have bT := Boxed.new ((w'.alloc (.cells #[.int .i64 0] 2)).alloc (.cells #[.int .i64 0] 3)) 9 (.string (str r))
  simp only [World.size_alloc] at bN bT
  have hB0 : Below w'.heap.size w' (((w'.alloc (.cells #[.int .i64 0] 2)).alloc (.cells #[.int .i64 0] 3)).alloc (.cells #[.string (str r)] 9)) := (((Below.refl _ w').alloc (Nat.le_refl _) _).alloc (by simp) _).alloc (by simp; omega) _
  refine wpIn_rangeFunc_ownF rfl (by decide) (gf := 111) (lb := #[.pointer (some ⟨w'.heap.size + 1 + 1, 0, none⟩)]) rfl trivial (enters_of Tryz.func111 (by kernel_rfl) rfl)
    (pieces_stops _ (w'.heap.size + 1 + 1) w'.heap.size r hrl _ (by simp) bT.cell) belowK_t (belowK_b (by simp; omega)) (Below.refl _ _) (fun _ => rfl)
    (fun (pre : List Pc) W => (Boxed W w'.heap.size 2 (.int .i64 (cd (pcs pre))) ∧ Boxed W (w'.heap.size + 1) 3 (.int .i64 pre.length) ∧ (pcs pre).all plain = true) ∧ Below w'.heap.size w' W)
    (fun c (pre : List Pc) W => (c = .exit 0 ∧ (pcs pre).all plain = false ∧ Boxed W w'.heap.size 2 (.int .i64 5)) ∧ Below w'.heap.size w' W)
    (OwnFrom.and (OwnFrom.and (Own.from (boxed_own _ _ (fun pre => .int .i64 (cd (pcs pre)))) _) (OwnFrom.and (Own.from (boxed_own _ _ (fun (pre : List Pc) => .int .i64 pre.length)) _) (ownFrom_pure _ _))) (ownFrom_below (Nat.le_refl _) (by simp; omega)))
    (fun c => OwnFrom.and (OwnFrom.and (ownFrom_pure _ _) (OwnFrom.and (ownFrom_pure _ _) (Own.from (boxed_own _ _ (fun _ => .int .i64 5)) _))) (ownFrom_below (Nat.le_refl _) (by simp; omega)))
    ⟨⟨(bC.alloc _).alloc _, bN.alloc _, rfl⟩, hB0⟩
    (fun x => { tmps := #[.string s, undef, .int .i64 0, .string (str r), .bool true, .pointer (some ⟨w'.heap.size, 0, none⟩), .pointer (some ⟨w'.heap.size + 1, 0, none⟩), .string (str x.1), .tuple #[.string (str r), .bool true], .string s, .tuple #[.string (str r), .bool true], .string (str r), .bool true, .bool true, .bool false, .string (str r), .func (.func 111) #[] #[.pointer (some ⟨w'.heap.size + 1 + 1, 0, none⟩)], .string (str x.1), undef, undef, undef, undef, undef, undef, undef, undef, undef, undef, undef, undef, undef, undef, undef], defers := [] }) ?assign ?body ?done ?stop
  case assign =>
    intro l x W K hK
    gi_wp2_with fail
    exact hK
  case body =>
    rintro l pre ⟨x, hx⟩ W ⟨⟨hc, hn, hp⟩, hB⟩ hlt
    have hc0 := hc.cell
    have hf0 := hc.frozen
    have hn0 := hn.cell
    have hnf := hn.frozen
    have hpl : (pre.length : Int) ≤ 4194304 := by omega
    have HP := hide hp
    have HB := hide hB
    have HC := hide (hc.other (B' := w'.heap.size + 1) (by omega) (.int .i64 (pre.length + 1)))
    have HN := hide (hn.set (.int .i64 (pre.length + 1)))
    clear hp hB hc hn
    have hn1 := HN.out.cell
    have hc1 := HC.out.cell
    have hf1 := HC.out.frozen
    gi_wp2_with fail
    refine ⟨trivial, ?_⟩
    refine (CallsIn.inRound l (callsIn_wide.2 (isLetters_any _ _ (by rw [str_size]; omega)))).mono ?_
    rintro e w2 ⟨rfl, rfl⟩
    rw [str_data]
    cases hpx : plain x
    · have HX := hide hpx
      clear hpx
      gi_wp2_with fail
      exact ⟨(KeepsOthers.setCell _ _ _).trans (KeepsOthers.setCell _ _ _), ⟨rfl, by rw [pcs_snoc]; simp [HX.out], HC.out.set _⟩, (HB.out.setCell (p := ⟨w'.heap.size + 1, 0, none⟩) (by simp) _).setCell (p := ⟨w'.heap.size, 0, none⟩) (Nat.le_refl _) _⟩
    · have HX := hide hpx
      clear hpx
      have HPn := hide (show (pcs (pre ++ [⟨x, hx⟩])).all plain = true by rw [pcs_snoc]; simp [HP.out, HX.out])
      by_cases h4 : 4 < x.length
      · have h4' : (4 : Int) < ((str x).size : Int) := by rw [str_size]; omega
        have HE := hide (cd_bad (pcs pre) x (.inl h4))
        gi_wp2_with fail
        exact ⟨(KeepsOthers.setCell _ _ _).trans (KeepsOthers.setCell _ _ _), ((Below.refl w'.heap.size W).setCell (p := ⟨w'.heap.size + 1, 0, none⟩) (by simp) _).setCell (p := ⟨w'.heap.size, 0, none⟩) (Nat.le_refl _) _, ⟨by rw [pcs_snoc, HE.out]; exact HC.out.set _, by simpa using HN.out.other (by omega) _, HPn.out⟩, (HB.out.setCell (p := ⟨w'.heap.size + 1, 0, none⟩) (by simp) _).setCell (p := ⟨w'.heap.size, 0, none⟩) (Nat.le_refl _) _⟩
      · have h4' : ¬ (4 : Int) < ((str x).size : Int) := by rw [str_size]; omega
        by_cases h3 : 3 < pre.length + 1
        · have h3' : (3 : Int) < (pre.length : Int) + 1 := by omega
          have HE := hide (cd_bad (pcs pre) x (.inr (by rw [pcs_length]; exact h3)))
          gi_wp2_with fail
          exact ⟨(KeepsOthers.setCell _ _ _).trans (KeepsOthers.setCell _ _ _), ((Below.refl w'.heap.size W).setCell (p := ⟨w'.heap.size + 1, 0, none⟩) (by simp) _).setCell (p := ⟨w'.heap.size, 0, none⟩) (Nat.le_refl _) _, ⟨by rw [pcs_snoc, HE.out]; exact HC.out.set _, by simpa using HN.out.other (by omega) _, HPn.out⟩, (HB.out.setCell (p := ⟨w'.heap.size + 1, 0, none⟩) (by simp) _).setCell (p := ⟨w'.heap.size, 0, none⟩) (Nat.le_refl _) _⟩
        · have h3' : ¬ (3 : Int) < (pre.length : Int) + 1 := by omega
          have HE := hide (cd_good (pcs pre) x h4 (by rw [pcs_length]; exact h3))
          gi_wp2_with fail
          exact ⟨KeepsOthers.setCell _ _ _, (Below.refl w'.heap.size W).setCell (p := ⟨w'.heap.size + 1, 0, none⟩) (by simp) _, ⟨by rw [pcs_snoc, HE.out]; exact HC.out, by simpa using HN.out, HPn.out⟩, HB.out.setCell (p := ⟨w'.heap.size + 1, 0, none⟩) (by simp) _⟩
  case done =>
    rintro D ys W hD hys ⟨⟨hc, hn, hp⟩, hB⟩ hK
    have hc0 := hc.cell
    have HE := hide (show faultN (cutB r) = cd (pcs ys) by rw [← hys]; exact cd_fault hp)
    clear hp hys
    gi_wp2_with fail
    refine ⟨by simp, .inl ⟨_, _, rfl, run_takeDeferred hK, ?_⟩⟩
    exact ⟨_, results_tmp rfl _ _ _, by rw [HE.out]; rfl, hB.trans (belowK_b (w := w') (Nat.le_refl _) W D _ _ (by simp at hD; omega) hK rfl rfl)⟩
  case stop =>
    rintro D c pre W hD hpre ⟨⟨rfl, hp, hc⟩, hB⟩ hK
    have hc0 := hc.cell
    have HE := hide (fault_of_prefix hpre hp)
    clear hp hpre
    gi_wp2_with fail
    refine ⟨by simp, .inl ⟨_, _, rfl, run_takeDeferred hK, ?_⟩⟩
    exact ⟨_, results_tmp rfl _ _ _, by rw [HE.out]; rfl, hB.trans (belowK_b (w := w') (Nat.le_refl _) W D _ _ (by simp at hD; omega) hK rfl rfl)⟩

theorem implPathFault_any (s : ByteArray) (w : World) (hs : s.size ≤ 2097152) :
    Calls Tryz.prog 55 #[.string s] w fun e w' => e = .returned (.int .i64 (faultP s.data.toList)) ∧ Below w.heap.size w w' := by
  rcases stroke_cases s.data.toList with ⟨r, h⟩ | h
  · have e : faultP s.data.toList = faultN (cutB r) := by rw [h]; simp [faultP]
    rw [e]
    exact implPathFault_yes s r w h hs
  · rw [faultP_not h]
    exact implPathFault_no s w h

theorem box_own {β : Type} (b : Nat) (u v : Value) : Go.Own (fun (_ : β) W => Box W b u v) := fun s A B row hs hg hr =>
  ⟨⟨cell_kept hs.1.1 hg hr, cell_kept hs.1.2 hg hr⟩, (frozen_kept hs.1.1 hg hr).trans hs.2.1, (frozen_kept hs.1.2 hg hr).trans hs.2.2⟩
theorem Two.set {W : World} {b : Nat} {u v : Value} (h : Two W b u v) (u' v' : Value) : Two ((W.setCell ⟨b, 0, none⟩ u').setCell ⟨b, 1, none⟩ v') b u' v' := by
  have h1 : (W.setCell ⟨b, 0, none⟩ u').cell? ⟨b, 0, none⟩ = some u' := cell_set_same h.1
  have h2 : (W.setCell ⟨b, 0, none⟩ u').cell? ⟨b, 1, none⟩ = some v := (cell_set_other (by simp)).trans h.2
  exact ⟨(cell_set_other (by simp)).trans h1, cell_set_same h2⟩
/-- The end of a function whose result lies in a box of two cells and that held a loop over a function. -/
theorem end_box {W : World} {b D : Nat} {u v : Value} (h : Two W b u v) (hK : W.heap[D]? = some (.deferred (some []))) (u' v' : Value) :
    ((W.setCell ⟨b, 0, none⟩ u').setCell ⟨b, 1, none⟩ v').heap[D]? = some (.deferred (some [])) ∧
    (((W.setCell ⟨b, 0, none⟩ u').setCell ⟨b, 1, none⟩ v').putObj D (.deferred none)).cell? ⟨b, 0, none⟩ = some u' ∧
    (((W.setCell ⟨b, 0, none⟩ u').setCell ⟨b, 1, none⟩ v').putObj D (.deferred none)).cell? ⟨b, 1, none⟩ = some v' := by
  have hK2 := ((KeepsOthers.setCell W ⟨b, 0, none⟩ u').trans (KeepsOthers.setCell _ ⟨b, 1, none⟩ v')).same D _ hK rfl
  have h2 := h.set u' v'
  exact ⟨hK2, cell_kept h2.1 (grownBy_putObj' _ D (.deferred none)) (fun r e => by cases e; exact ⟨_, hK2, rfl⟩), cell_kept h2.2 (grownBy_putObj' _ D (.deferred none)) (fun r e => by cases e; exact ⟨_, hK2, rfl⟩)⟩

theorem lastN_snoc (ps : List Bs) (x : Bs) : lastN (ps ++ [x]) = x := by simp [lastN]


end Go.Proofs.YtlbccbikepkfiaaGreatDoor

namespace Go.Proofs.YtlbccbikepkfiaaGreatDoor
open Go.RowKit
set_option linter.unusedVariables false

theorem implDig_any (n : Int) (w : World) : Calls Tryz.prog 91 #[.int .i64 n] w fun e w' => e = .returned (.bool (isDig n)) ∧ w' = w := by
  by_cases h0 : 0 ≤ n
  · by_cases h1 : n ≤ 4294967295
    · have e : isDig n = true := decide_eq_true ⟨h0, h1⟩
      rw [e]
      go_enter Tryz.func91, Tryz.ntmps91
      go_wp2
      go_ret
      exact ⟨rfl, rfl⟩
    · have e : isDig n = false := decide_eq_false (fun h => h1 h.2)
      rw [e]
      go_enter Tryz.func91, Tryz.ntmps91
      go_wp2
      go_ret
      exact ⟨rfl, rfl⟩
  · have e : isDig n = false := decide_eq_false (fun h => h0 h.1)
    rw [e]
    go_enter Tryz.func91, Tryz.ntmps91
    go_wp2
    go_ret
    exact ⟨rfl, rfl⟩

set_option maxHeartbeats 400000 in
theorem itemOf_any (p : ByteArray) (k z : Int) (a : Option Addr) (n c : Nat) (w : World) :
    Calls Tryz.prog 34 #[.agg #[.string p, .int .i64 k, .int .i64 z, .slice a n c]] w fun r w' => r = .returned (.agg #[.int .i64 z, .slice a n c, .string p, .int .i64 k]) ∧ Below w.heap.size w w' := by
  go_enter Tryz.func34, Tryz.ntmps34
  go_wp2
  refine bodyPost_ret (v := .agg #[.int .i64 z, .slice a n c, .string p, .int .i64 k]) (by simp [results, Tryz.results34, go_sem]) rfl ⟨rfl, ?_⟩
  exact below_next (below_alloc _ _) (below_alloc _ _)

set_option maxHeartbeats 400000 in
theorem isKind_any (p : ByteArray) (k z : Int) (a : Option Addr) (n c : Nat) (w : World) :
    Calls Tryz.prog 56 #[.agg #[.int .i64 z, .slice a n c, .string p, .int .i64 k]] w fun r w' => r = .returned (.bool (decide (1 ≤ k ∧ k ≤ 4))) ∧ Below w.heap.size w w' := by
  by_cases h0 : 1 ≤ k
  · by_cases h1 : k ≤ 4
    · have e : decide (1 ≤ k ∧ k ≤ 4) = true := decide_eq_true ⟨h0, h1⟩
      rw [e]
      go_enter Tryz.func56, Tryz.ntmps56
      go_wp2
      go_ret
      exact ⟨rfl, below_alloc _ _⟩
    · have e : decide (1 ≤ k ∧ k ≤ 4) = false := decide_eq_false (fun h => h1 h.2)
      rw [e]
      go_enter Tryz.func56, Tryz.ntmps56
      go_wp2
      go_ret
      exact ⟨rfl, below_alloc _ _⟩
  · have e : decide (1 ≤ k ∧ k ≤ 4) = false := decide_eq_false (fun h => h0 h.1)
    rw [e]
    go_enter Tryz.func56, Tryz.ntmps56
    go_wp2
    go_ret
    exact ⟨rfl, below_alloc _ _⟩

set_option maxHeartbeats 400000 in
theorem isDir_any (p : ByteArray) (k z : Int) (a : Option Addr) (n c : Nat) (w : World) :
    Calls Tryz.prog 87 #[.agg #[.int .i64 z, .slice a n c, .string p, .int .i64 k]] w fun r w' => r = .returned (.bool (dirK k)) ∧ Below w.heap.size w w' := by
  by_cases h0 : k = 2
  · have e : dirK k = true := decide_eq_true (.inl h0)
    have hb : (k == 2) = true := by simp [h0]
    rw [e]
    clear e h0
    go_enter Tryz.func87, Tryz.ntmps87
    go_wp2
    go_ret
    exact ⟨rfl, below_alloc _ _⟩
  · have hb : (k == 2) = false := by simp [h0]
    by_cases h1 : k = 4
    · have e : dirK k = true := decide_eq_true (.inr h1)
      have hb1 : (k == 4) = true := by simp [h1]
      rw [e]
      clear e h0 h1
      go_enter Tryz.func87, Tryz.ntmps87
      go_wp2
      go_ret
      exact ⟨rfl, below_alloc _ _⟩
    · have e : dirK k = false := decide_eq_false (fun h => h.elim h0 h1)
      have hb1 : (k == 4) = false := by simp [h1]
      rw [e]
      clear e h0 h1
      go_enter Tryz.func87, Tryz.ntmps87
      go_wp2
      go_ret
      exact ⟨rfl, below_alloc _ _⟩

set_option maxHeartbeats 400000 in
theorem hasBytes_any (z : Int) (a : Option Addr) (n c : Nat) (w : World) :
    Calls Tryz.prog 57 #[.agg #[.int .i64 z, .slice a n c]] w fun r w' => r = .returned (.bool (decide (z ≠ 0 ∨ n ≠ 0))) ∧ Below w.heap.size w w' := by
  by_cases h0 : z = 0
  · have hb : (z != 0) = false := by simp [h0]
    by_cases h1 : n = 0
    · have e : decide (z ≠ 0 ∨ n ≠ 0) = false := decide_eq_false (fun h => h.elim (fun h => h h0) (fun h => h h1))
      have hb1 : ((n : Int) != 0) = false := by simp [h1]
      rw [e]
      clear e h0 h1
      go_enter Tryz.func57, Tryz.ntmps57
      go_wp2
      go_ret
      exact ⟨rfl, below_alloc _ _⟩
    · have e : decide (z ≠ 0 ∨ n ≠ 0) = true := decide_eq_true (.inr h1)
      have hb1 : ((n : Int) != 0) = true := by simp; omega
      rw [e]
      clear e h0 h1
      go_enter Tryz.func57, Tryz.ntmps57
      go_wp2
      go_ret
      exact ⟨rfl, below_alloc _ _⟩
  · have e : decide (z ≠ 0 ∨ n ≠ 0) = true := decide_eq_true (.inl h0)
    have hb : (z != 0) = true := by simp [h0]
    rw [e]
    clear e h0
    go_enter Tryz.func57, Tryz.ntmps57
    go_wp2
    go_ret
    exact ⟨rfl, below_alloc _ _⟩

/-- The fault of an entry's Size and Chunks. -/
def bytesF (z : Int) (zs : List Int) : Int := if 0 ≤ z ∧ z ≤ 24 then (if (zs.length : Int) = (z + 7) / 8 then (if zs.all isDig then 0 else 3) else 1) else 3
theorem entFault_bytes {e : En} (h : faultP e.path = 0) (h1 : formE e = true) : entFault e = bytesF e.size e.chunks := by
  simp [entFault, h, h1, bytesF, sizeE, manyE]

set_option maxHeartbeats 800000 in
theorem bytesFault_any (z : Int) (x : Option Addr) (c : Nat) (zs : List Int) (w : World) (h : Reads .i64 w x zs) (hc : zs.length ≤ 1048576) :
    Calls Tryz.prog 58 #[.agg #[.int .i64 z, .slice x zs.length c]] w fun r w' => r = .returned (.int .i64 (bytesF z zs)) ∧ Below w.heap.size w w' := by
  have HR := hide h
  clear h
  by_cases h0 : 0 ≤ z
  · have h0' : ¬ z < 0 := by omega
    by_cases h1 : z ≤ 24
    · have h1' : ¬ 24 < z := by omega
      have ed : (z + 7) / 8 = (z + 8 - 1) / 8 := by congr 1; omega
      by_cases hm : (zs.length : Int) = (z + 7) / 8
      · have HE := hide (show bytesF z zs = if zs.all isDig then 0 else 3 from by simp [bytesF, h0, h1, hm])
        have hmn : ((zs.length : Int) != (z + 8 - 1) / 8) = false := by rw [← ed]; simp; exact hm
        clear hm ed
        have HR1 := hide (HR.out.below (below_alloc w (.cells #[.int .i64 z, .slice x zs.length c] 60)))
        go_enter Tryz.func58, Tryz.ntmps58
        go_wp2_with fail
        have HB := hide (below_alloc w (.cells #[.int .i64 z, .slice x zs.length c] 60))
        generalize w.alloc (.cells #[.int .i64 z, .slice x zs.length c] 60) = W at *
        go_loop [25] (fun i => ∃ k : Nat, k ≤ zs.length ∧ i = .int .i64 k ∧ Hid ((zs.take k).all isDig = true)) (fun i => zs.length - (intOf i).toNat)
        case atStart => exact ⟨0, Nat.zero_le _, rfl, hide (by simp)⟩
        case round =>
          obtain ⟨k, hk, rfl, HA⟩ := hrel
          by_cases hlt : k < zs.length
          · obtain ⟨b, off, rfl, hb1, hcc⟩ := HR1.out (by intro e; simp [e] at hlt)
            have hc1 := hcc k hlt
            have hzk : zs[k]? = some (zs.getD k 0) := by rw [List.getD_eq_getElem?_getD, List.getElem?_eq_getElem hlt]; rfl
            generalize zs.getD k 0 = y at hc1 hzk
            have HZ := hide hzk
            clear hcc hzk
            cases hd : isDig y
            · have HX := hide (show zs.all isDig = false from by rw [List.all_eq_false]; exact ⟨y, List.mem_of_getElem? HZ.out, by simp [hd]⟩)
              have HD := hide hd
              clear hd
              go_wp2_with fail
              refine (implDig_any _ _).mono ?_
              rintro r w'' ⟨rfl, rfl⟩
              rw [HD.out]
              go_wp2_with fail
              go_ret
              exact ⟨ret_int (by rw [HE.out, HX.out]; rfl), HB.out⟩
            · have HX := hide (show (zs.take (k + 1)).all isDig = true from by rw [take_snoc_at HZ.out]; simp [HA.out, hd])
              have HD := hide hd
              clear hd
              go_wp2_with fail
              refine (implDig_any _ _).mono ?_
              rintro r w'' ⟨rfl, rfl⟩
              rw [HD.out]
              go_wp2_with fail
              go_round
              case rel => exact ⟨k + 1, by omega, by go_num, HX⟩
              case measure => simp [intOf]; omega
          · have HX := hide (show zs.all isDig = true from by have := HA.out; rwa [List.take_of_length_le (by omega)] at this)
            go_wp2_with fail
            go_ret
            exact ⟨ret_int (by rw [HE.out, HX.out]; rfl), HB.out⟩
      · have HE := hide (show bytesF z zs = 1 from by simp [bytesF, h0, h1, hm])
        have hmn : ((zs.length : Int) != (z + 8 - 1) / 8) = true := by rw [← ed]; simp; exact hm
        clear hm ed
        go_enter Tryz.func58, Tryz.ntmps58
        go_wp2_with fail
        go_ret
        exact ⟨ret_int HE.out.symm, below_alloc _ _⟩
    · have h1' : 24 < z := by omega
      have HE := hide (show bytesF z zs = 3 from by simp [bytesF, h1])
      clear h1
      go_enter Tryz.func58, Tryz.ntmps58
      go_wp2_with fail
      go_ret
      exact ⟨ret_int HE.out.symm, below_alloc _ _⟩
  · have h0' : z < 0 := by omega
    have HE := hide (show bytesF z zs = 3 from by simp [bytesF, h0])
    clear h0
    go_enter Tryz.func58, Tryz.ntmps58
    go_wp2_with fail
    go_ret
    exact ⟨ret_int HE.out.symm, below_alloc _ _⟩

set_option maxRecDepth 100000 in
set_option maxHeartbeats 1600000 in
theorem implEntryFault_any (e : En) (x : Option Addr) (c n : Nat) (w : World) (h : Reads .i64 w x e.chunks) (hn : n = e.chunks.length) (hp : e.path.length ≤ 1048576) (hc : e.chunks.length ≤ 1048576) :
    Calls Tryz.prog 28 #[.agg #[.string (str e.path), .int .i64 e.kind, .int .i64 e.size, .slice x n c]] w fun r w' => r = .returned (.int .i64 (entFault e)) ∧ Below w.heap.size w w' := by
  subst hn
  have HR := hide h
  clear h
  have HN := hide (below_alloc w (.cells #[.string (str e.path), .int .i64 e.kind, .int .i64 e.size, .slice x e.chunks.length c] 39))
  have HB := hide (Four.new w (.string (str e.path)) (.int .i64 e.kind) (.int .i64 e.size) (.slice x e.chunks.length c) 39)
  by_cases hf : faultP e.path = 0
  · go_enter Tryz.func28, Tryz.ntmps28
    go_wp2_with fail
    refine (implPathFault_any _ _ (by rw [str_size]; omega)).mono ?_
    rintro r w1 ⟨rfl, hb1⟩
    rw [str_data, hf]
    have HB1 := hide (below_next HN.out hb1)
    have hB := HB.out.below hb1
    clear HB HN hb1
    obtain ⟨c0, c1, c2, c3⟩ := hB
    generalize w.heap.size = bk at c0 c1 c2 c3 ⊢
    go_wp2_with fail
    refine (itemOf_any _ _ _ _ _ _ _).mono ?_
    rintro r w2 ⟨rfl, hb2⟩
    have HB2 := hide (below_next HB1.out hb2)
    clear HB1 hb2 c0 c1 c2 c3
    go_wp2_with fail
    have F2 := hide (Four.new w2 (.int .i64 e.size) (.slice x e.chunks.length c) (.string (str e.path)) (.int .i64 e.kind) 62)
    have HB3 := hide (below_next HB2.out (below_alloc w2 (.cells #[.int .i64 e.size, .slice x e.chunks.length c, .string (str e.path), .int .i64 e.kind] 62)))
    generalize w2.alloc (.cells #[.int .i64 e.size, .slice x e.chunks.length c, .string (str e.path), .int .i64 e.kind] 62) = W3 at *
    generalize w2.heap.size = b2 at *
    refine (isKind_any _ _ _ _ _ _ _).mono ?_
    rintro r w4 ⟨rfl, hb4⟩
    have F4 := F2.out.below hb4
    have HB4 := hide (below_next HB3.out hb4)
    clear hb4 HB3 HB2 F2
    obtain ⟨f0, f1, f2, f3⟩ := F4
    by_cases hk : 1 ≤ e.kind ∧ e.kind ≤ 4
    · rw [decide_eq_true hk]
      by_cases hk1 : e.kind = 1
      · have HE := hide (entFault_bytes hf (decide_eq_true ⟨hk, Or.inl hk1⟩))
        have hkn : (e.kind != 1) = false := by simp [hk1]
        clear hk hk1 hf
        have HR4 := hide (HR.out.below HB4.out)
        go_wp2_with fail
        refine (bytesFault_any _ _ _ _ _ HR4.out hc).mono ?_
        rintro r w5 ⟨rfl, hb5⟩
        have HB5 := hide (below_next HB4.out hb5)
        clear hb5
        go_wp2_with fail
        go_ret
        exact ⟨ret_int HE.out.symm, HB5.out⟩
      · have hkn : (e.kind != 1) = true := by simp [hk1]
        have HK1 := hide hk1
        have HK := hide hk
        clear hk1 hk
        go_wp2_with fail
        refine (hasBytes_any _ _ _ _ _).mono ?_
        rintro r w5 ⟨rfl, hb5⟩
        have HB5 := hide (below_next HB4.out hb5)
        have g0 := (hb5.cell (p := ⟨b2, 0, none⟩) (World.block_lt_of_cell? _ _ f0)).trans f0
        have g1 := (hb5.cell (p := ⟨b2, 1, none⟩) (World.block_lt_of_cell? _ _ f1)).trans f1
        clear hb5 f0 f1 f2 f3
        by_cases hz : e.size ≠ 0 ∨ e.chunks.length ≠ 0
        · rw [decide_eq_true hz]
          have HE := hide (entFault_form hf (decide_eq_false (fun h => h.2.elim HK1.out (fun h => hz.elim (fun q => q h.1) (fun q => q h.2)))))
          clear hz hf
          go_wp2_with fail
          go_ret
          exact ⟨ret_int HE.out.symm, HB5.out⟩
        · rw [decide_eq_false hz]
          have HE := hide (entFault_bytes hf (decide_eq_true ⟨HK.out, Or.inr (by omega)⟩))
          clear hz hf
          have HR5 := hide (HR.out.below HB5.out)
          go_wp2_with fail
          refine (bytesFault_any _ _ _ _ _ HR5.out hc).mono ?_
          rintro r w6 ⟨rfl, hb6⟩
          have HB6 := hide (below_next HB5.out hb6)
          clear hb6
          go_wp2_with fail
          go_ret
          exact ⟨ret_int HE.out.symm, HB6.out⟩
    · rw [decide_eq_false hk]
      have HE := hide (entFault_form hf (decide_eq_false (fun h => hk h.1)))
      clear hk hf
      go_wp2_with fail
      go_ret
      exact ⟨ret_int HE.out.symm, HB4.out⟩
  · rw [entFault_path hf]
    go_enter Tryz.func28, Tryz.ntmps28
    go_wp2_with fail
    refine (implPathFault_any _ _ (by rw [str_size]; omega)).mono ?_
    rintro r w1 ⟨rfl, hb1⟩
    rw [str_data]
    have HB1 := hide (below_next HN.out hb1)
    clear hb1 HN HB HR
    go_wp2_with fail
    go_ret
    exact ⟨rfl, HB1.out⟩

end Go.Proofs.YtlbccbikepkfiaaGreatDoor

namespace Go.Proofs.YtlbccbikepkfiaaGreatDoor
set_option linter.unusedVariables false

def entText (e : En) : Bs := if entFault e = 0 then textE e else []
theorem entText_bad {e : En} (h : entFault e ≠ 0) : entText e = [] := by simp [entText, h]
theorem entText_good {e : En} (h : entFault e = 0) : entText e = textE e := by simp [entText, h]
theorem FitE.three {e : En} (h : FitE e) : e.chunks.length ≤ 3 := by have := h.size; have := h.many; omega
theorem FitE.plen {e : En} (h : FitE e) : e.path.length ≤ 15 := by
  obtain ⟨ns, hN, hp, -⟩ := faultP_zero h.path
  have := join_len ns hN.2.2.1
  have := hN.2.2.2
  rw [hp]; omega
theorem digB_len (n : Int) : (digB n).length ≤ 2 := by unfold digB; split <;> simp
theorem hexesB_len {cs : List Int} (h : cs.length ≤ 3) : (hexesB cs).length ≤ 27 := by
  unfold hexesB
  split
  · simp
  · have := joinC_bound (m := 44) (K := 8) (cs.map hexB) (fun p hp => by obtain ⟨z, -, rfl⟩ := List.mem_map.1 hp; exact Nat.le_of_eq (hexB_length z))
    rw [List.length_map] at this
    omega
theorem textE_file {e : En} (h : e.kind = 1) : textE e = [102, 32] ++ e.path ++ [32] ++ digB e.size ++ [32] ++ hexesB e.chunks := by
  simp [textE, h, joinC]
theorem textE_dir {e : En} (h : e.kind ≠ 1) : textE e = kindB e.kind ++ [32] ++ e.path := by
  simp [textE, h, joinC]
end Go.Proofs.YtlbccbikepkfiaaGreatDoor

namespace Go.Proofs.YtlbccbikepkfiaaGreatDoor
open Go.RowKit
set_option linter.unusedVariables false
set_option maxRecDepth 100000

theorem dec_digB : ∀ k : Fin 25, Lib.decDigits k.val = digB (k.val : Int) := by decide +kernel

theorem formatInt_any (n : Int) (w : World) (h0 : 0 ≤ n) (h1 : n ≤ 24) : Calls Tryz.prog 29 #[.int .i64 n, .int .i64 10] w fun r w' => r = .returned (.string (str (digB n))) ∧ w' = w := by
  have := Any.strconv_FormatInt_10_small Tryz.fmtA n.toNat (by omega) w
  have e : ((n.toNat : Nat) : Int) = n := by omega
  have e2 := dec_digB ⟨n.toNat, by omega⟩
  simp only at e2
  rw [e] at this e2
  rw [e2] at this
  exact this

set_option maxHeartbeats 800000 in
theorem chunksText_any (cs : List Int) (x : Option Addr) (c : Nat) (w : World) (h : Reads .i64 w x cs) (hd : cs.length ≤ 3) (hall : ∀ z ∈ cs, 0 ≤ z ∧ z ≤ 4294967295) :
    Calls Tryz.prog 30 #[.slice x cs.length c] w fun r w' => r = .returned (.string (str (hexesB cs))) ∧ Below w.heap.size w w' := by
  have HR := hide h
  have HALL := hide hall
  clear h hall
  by_cases h0 : cs = []
  · subst h0
    go_enter Tryz.func30, Tryz.ntmps30
    go_wp2_with fail
    go_ret
    exact ⟨rfl, Below.refl _ _⟩
  · have hpos : 0 < cs.length := List.length_pos_iff.2 h0
    have hne : ((cs.length : Int) == 0) = false := by simp; omega
    have HE := hide (show hexesB cs = joinC 44 (cs.map hexB) by simp [hexesB, h0])
    have H0 := hide h0
    clear h0
    go_enter Tryz.func30, Tryz.ntmps30
    go_wp2_with fail
    refine (hexTexts_any cs x c w HR.out (by omega) HALL.out).mono ?_
    rintro r w1 ⟨av, cv, rfl, hO, hb1⟩
    have O1 := hide hO
    have B1 := hide hb1
    have hcap := hO.cap (by simp)
    clear hO hb1
    have hbd := joinC_bound (m := 44) (K := 8) (cs.map hexB) (fun p hp => by obtain ⟨z, -, rfl⟩ := List.mem_map.1 hp; exact Nat.le_of_eq (hexB_length z))
    rw [List.length_map] at hbd
    go_wp2_with fail
    refine (joinMark_any 44 av cv cs.length (cs.map hexB) _ O1.out.reads (by simpa using H0.out) (by simp) hcap (by simp; omega) (by omega)).mono ?_
    rintro r w2 ⟨rfl, hb2⟩
    have B2 := hide (below_next B1.out hb2)
    clear hb2
    go_wp2_with fail
    go_ret
    exact ⟨ret_str (by rw [HE.out]), B2.out⟩


theorem news_two (w : World) (a b : Value) (t : TypeId) : ∀ j u, [a, b][j]? = some u → (w.alloc (.cells #[a, b] t)).cell? ((⟨w.heap.size, 0, none⟩ : Addr).add j) = some u := by
  intro j u hj
  rw [addr_add]
  match j, hj with
  | 0, hj => simp at hj; subst hj; simp
  | 1, hj => simp at hj; subst hj; simp
theorem reads_two (w : World) (p q : Bs) : ReadsS (w.alloc (.cells #[.string (str p), .string (str q)] 9)) (some ⟨w.heap.size, 0, none⟩) [p, q] := by
  intro _
  refine ⟨w.heap.size, 0, rfl, by simp, fun i hi => ?_⟩
  match i, hi with
  | 0, _ => simp
  | 1, _ => simp

set_option maxHeartbeats 3200000 in
theorem implEntryText_any (e : En) (x : Option Addr) (c : Nat) (w : World) (h : Reads .i64 w x e.chunks) (hp : e.path.length ≤ 1048576) (hc : e.chunks.length ≤ 1048576) :
    Calls Tryz.prog 12 #[.agg #[.string (str e.path), .int .i64 e.kind, .int .i64 e.size, .slice x e.chunks.length c]] w fun r w' => r = .returned (.agg #[.int .i64 (entFault e), .string (str (entText e))]) ∧ Below w.heap.size w w' := by
  have M0 := hide (Four.new w (.string (str e.path)) (.int .i64 e.kind) (.int .i64 e.size) (.slice x e.chunks.length c) 39)
  have B0 := hide (below_alloc w (.cells #[.string (str e.path), .int .i64 e.kind, .int .i64 e.size, .slice x e.chunks.length c] 39))
  have R0 := hide (h.below B0.out)
  clear h
  have X0 := hide (Box.new (w.alloc (.cells #[.string (str e.path), .int .i64 e.kind, .int .i64 e.size, .slice x e.chunks.length c] 39)) (.int .i64 0) (.string ⟨#[]⟩) 35)
  have B1 := hide (below_next B0.out (below_alloc (w.alloc (.cells #[.string (str e.path), .int .i64 e.kind, .int .i64 e.size, .slice x e.chunks.length c] 39)) (.cells #[.int .i64 0, .string ⟨#[]⟩] 35)))
  have M1 := hide (M0.out.below (below_alloc _ (.cells #[.int .i64 0, .string ⟨#[]⟩] 35)))
  have R1 := hide (R0.out.below (below_alloc _ (.cells #[.int .i64 0, .string ⟨#[]⟩] 35)))
  have hs0 : (w.alloc (.cells #[.string (str e.path), .int .i64 e.kind, .int .i64 e.size, .slice x e.chunks.length c] 39)).heap.size = w.heap.size + 1 := by simp
  rw [hs0] at X0
  obtain ⟨m0, m1, m2, m3⟩ := M0.out
  go_enter Tryz.func12, Tryz.ntmps12
  go_wp2_with fail
  generalize (w.alloc (.cells #[.string (str e.path), .int .i64 e.kind, .int .i64 e.size, .slice x e.chunks.length c] 39)).alloc (.cells #[.int .i64 0, .string ⟨#[]⟩] 35) = W1 at *
  clear M0 B0 R0 m0 m1 m2 m3 hs0
  refine (implEntryFault_any e x c e.chunks.length W1 R1.out rfl hp hc).mono ?_
  rintro r w2 ⟨rfl, hb2⟩
  have X2 := hide (X0.out.below hb2)
  have M2 := hide (M1.out.below hb2)
  have R2 := hide (R1.out.below hb2)
  have B2 := hide (below_next B1.out hb2)
  clear hb2 X0 M1 R1 B1
  by_cases hf : entFault e = 0
  · have HF := hide (entFault_fit.1 hf)
    have HP := hide (entText_good hf)
    have HMF := hide hf
    rw [hf]
    clear hf
    have hpl := HF.out.plen
    have hk4 := HF.out.kind
    obtain ⟨q0, q1, q2, q3⟩ := M2.out
    have hks : e.kind = 1 ∨ e.kind = 2 ∨ e.kind = 3 ∨ e.kind = 4 := by omega
    rcases hks with hkk | hkk | hkk | hkk
    · have HL := hide (show (⟨#[102, 100, 119, 111]⟩ : ByteArray).extract 0 1 = str [102] by rfl)
      have HT := hide (show joinC 32 [[102], e.path, digB e.size, hexesB e.chunks] = textE e by simp [textE, hkk])
      rw [hkk] at q1
      go_wp2_with fail
      go_region
      rw [HL.out]
      have A3 := hide (below_alloc w2 (.cells #[.string (str [102]), .string (str e.path)] 9)).drew
      have OW3 : Hid ((w2.alloc (.cells #[.string (str [102]), .string (str e.path)] 9)).drew.ownsRow w2.heap.size 9 1 (.slice (some ⟨w2.heap.size, 0, none⟩) 2 2) 2 [.string (str [102]), .string (str e.path)]) := hide (own_full (base := w2.heap.size) (e := 9) (n := 2) w2 #[.string (str [102]), .string (str e.path)] (Nat.le_refl _) (by decide) rfl)
      have hW3 : w2.heap.size ≤ (w2.alloc (.cells #[.string (str [102]), .string (str e.path)] 9)).drew.heap.size := by simp
      generalize (w2.alloc (.cells #[.string (str [102]), .string (str e.path)] 9)).drew = W3 at *
      have X3 := hide (X2.out.below A3.out)
      have B3 := hide (below_next B2.out A3.out)
      have M3 := hide (M2.out.below A3.out)
      have R3 := hide (R2.out.below A3.out)
      have A3b := hide A3.out
      clear q0 q1 q2 q3 A3
      have HFI := hide (fun u => formatInt_any e.size u HF.out.size.1 HF.out.size.2)
      have HCT := hide (fun u (hu : Below W3.heap.size W3 u) => chunksText_any e.chunks x c u (R3.out.below hu) HF.out.three HF.out.digs)
      have KM : Hid (∀ u : World, Below W3.heap.size W3 u → u.cell? ⟨w.heap.size, 1, none⟩ = some (.int .i64 e.kind) ∧ u.cell? ⟨w.heap.size, 2, none⟩ = some (.int .i64 e.size) ∧ u.cell? ⟨w.heap.size, 3, none⟩ = some (.slice x e.chunks.length c)) := hide (fun u hu => (M3.out.below hu).2)
      obtain ⟨q1, q2, q3⟩ := KM.out _ (Below.refl _ _)
      rw [hkk] at q1
      have hdl := digB_len e.size
      have hhl := hexesB_len HF.out.three
      generalize digB e.size = D at *
      generalize hexesB e.chunks = E at *
      obtain ⟨i1, ki, kz0, kz1, kz2⟩ := info_parts infoS
      go_wp2_with fail
      go_region_law
        ((first
          | (have hO4 := O4; clear hO4; refine step_app (by rfl) (.tmp 23) (.tmp 30) 54 (by rfl) w2.heap.size 9 i1 (.string ⟨#[]⟩) 1 16 Tryz.underlying54 ki kz0 kz1 kz2 rfl (by decide) (.slice (some ⟨w2.heap.size, 0, none⟩) 2 2) 2 [.string (str [102]), .string (str e.path)] (by rfl) (O4.out.alloc _) ⟨w4.heap.size, 0, none⟩ 2 2 [.string (str D), .string (str E)] (by rfl) (by rfl) (news_two w4 (.string (str D)) (.string (str E)) 9) (by intro u hu; simp at hu; rcases hu with rfl | rfl <;> rfl) 4 rfl (by decide) (by decide) (by have := BB4.out.size; simp; omega) ?_; intro av5 cv5 w5 hown5 hk5; have O5 := hide hown5; have B5 := hide (Kept.below_own (below_next (below_next A3b.out BB4.out) (below_alloc w4 (.cells #[.string (str D), .string (str E)] 9))) (by have := BB4.out.size; simp; omega) (O4.out.alloc (.cells #[.string (str D), .string (str E)] 9)) hk5); clear hown5 hk5)
          | (go_simp; go_wp2_with (first | (go_at_call 29; refine (HFI.out _).mono ?_; rintro r w' ⟨rfl, hw'⟩; have hw2 := hw'.symm; clear hw'; subst hw2) | (go_at_call 30; refine (HCT.out _ (Below.refl _ _).drew).mono ?_; rintro r w4 ⟨rfl, hb4⟩; have BB4 : Hid (Below W3.heap.size W3 w4) := hide (below_next (Below.refl _ _).drew hb4); obtain ⟨q41, q42, q43⟩ := KM.out _ BB4.out; have O4 := hide (ownsRow_below OW3.out BB4.out); clear hb4)))))
      all_goals
        have OW : Hid (OwnS w2.heap.size w5 (.slice av5 4 cv5) [[102], e.path, D, E]) := hide O5.out
        have X5 := hide (X2.out.below B5.out)
        have B6 := hide (below_next B2.out B5.out)
        have hcap := OW.out.cap rfl
        clear O5 B5 O4 BB4 q41 q42 q43 q1 q2 q3
        go_wp2_with fail
        refine (joinMark_any 32 av5 cv5 4 [[102], e.path, D, E] _ OW.out.reads (by simp) rfl hcap (by simp) (by simp [joinC]; omega)).mono ?_
        rintro r w6 ⟨rfl, hb6⟩
        rw [HT.out]
        obtain ⟨⟨t0, t1⟩, t2, t3⟩ := X5.out.below hb6
        have B7 := hide (below_next B6.out hb6)
        clear hb6
        go_wp2_with fail
        exact bodyPost_ret (v := .agg #[.int .i64 0, .string (str (textE e))]) (by simp [results, Tryz.results12, go_sem, t0, t1]) rfl ⟨by rw [HMF.out, HP.out], (B7.out.setCell (p := ⟨w.heap.size + 1, 0, none⟩) (Nat.le_succ _) _).setCell (p := ⟨w.heap.size + 1, 1, none⟩) (Nat.le_succ _) _⟩
    · have HL := hide (show (⟨#[102, 100, 119, 111]⟩ : ByteArray).extract 1 2 = str [100] by rfl)
      have HT := hide (show joinC 32 [[100], e.path] = textE e by simp [textE, hkk, kindB])
      rw [hkk] at q1
      have hkb : ((2 : Int) == 1) = false := by decide
      go_wp2_with fail
      go_region
      rw [HL.out]
      have A3 := hide (below_alloc w2 (.cells #[.string (str [100]), .string (str e.path)] 9)).drew
      have RS : Hid (ReadsS (w2.alloc (.cells #[.string (str [100]), .string (str e.path)] 9)).drew (some ⟨w2.heap.size, 0, none⟩) [[100], e.path]) := hide (reads_two w2 [100] e.path)
      generalize (w2.alloc (.cells #[.string (str [100]), .string (str e.path)] 9)).drew = W3 at *
      generalize w2.heap.size = b3 at RS ⊢
      have X3 := hide (X2.out.below A3.out)
      have B3 := hide (below_next B2.out A3.out)
      have hq1 := (M2.out.below A3.out).2.1
      rw [hkk] at hq1
      clear q0 q1 q2 q3
      go_wp2_with fail
      refine (joinMark_any 32 _ 2 2 [[100], e.path] _ RS.out (by simp) rfl (Nat.le_refl _) (by simp) (by simp [joinC]; omega)).mono ?_
      rintro r w4 ⟨rfl, hb4⟩
      rw [HT.out]
      obtain ⟨⟨t0, t1⟩, t2, t3⟩ := X3.out.below hb4
      have B4 := hide (below_next B3.out hb4)
      clear hb4
      go_wp2_with fail
      exact bodyPost_ret (v := .agg #[.int .i64 0, .string (str (textE e))]) (by simp [results, Tryz.results12, go_sem, t0, t1]) rfl ⟨by rw [HMF.out, HP.out], (B4.out.setCell (p := ⟨w.heap.size + 1, 0, none⟩) (Nat.le_succ _) _).setCell (p := ⟨w.heap.size + 1, 1, none⟩) (Nat.le_succ _) _⟩
    · have HL := hide (show (⟨#[102, 100, 119, 111]⟩ : ByteArray).extract 2 3 = str [119] by rfl)
      have HT := hide (show joinC 32 [[119], e.path] = textE e by simp [textE, hkk, kindB])
      rw [hkk] at q1
      have hkb : ((3 : Int) == 1) = false := by decide
      go_wp2_with fail
      go_region
      rw [HL.out]
      have A3 := hide (below_alloc w2 (.cells #[.string (str [119]), .string (str e.path)] 9)).drew
      have RS : Hid (ReadsS (w2.alloc (.cells #[.string (str [119]), .string (str e.path)] 9)).drew (some ⟨w2.heap.size, 0, none⟩) [[119], e.path]) := hide (reads_two w2 [119] e.path)
      generalize (w2.alloc (.cells #[.string (str [119]), .string (str e.path)] 9)).drew = W3 at *
      generalize w2.heap.size = b3 at RS ⊢
      have X3 := hide (X2.out.below A3.out)
      have B3 := hide (below_next B2.out A3.out)
      have hq1 := (M2.out.below A3.out).2.1
      rw [hkk] at hq1
      clear q0 q1 q2 q3
      go_wp2_with fail
      refine (joinMark_any 32 _ 2 2 [[119], e.path] _ RS.out (by simp) rfl (Nat.le_refl _) (by simp) (by simp [joinC]; omega)).mono ?_
      rintro r w4 ⟨rfl, hb4⟩
      rw [HT.out]
      obtain ⟨⟨t0, t1⟩, t2, t3⟩ := X3.out.below hb4
      have B4 := hide (below_next B3.out hb4)
      clear hb4
      go_wp2_with fail
      exact bodyPost_ret (v := .agg #[.int .i64 0, .string (str (textE e))]) (by simp [results, Tryz.results12, go_sem, t0, t1]) rfl ⟨by rw [HMF.out, HP.out], (B4.out.setCell (p := ⟨w.heap.size + 1, 0, none⟩) (Nat.le_succ _) _).setCell (p := ⟨w.heap.size + 1, 1, none⟩) (Nat.le_succ _) _⟩
    · have HL := hide (show (⟨#[102, 100, 119, 111]⟩ : ByteArray).extract 3 4 = str [111] by rfl)
      have HT := hide (show joinC 32 [[111], e.path] = textE e by simp [textE, hkk, kindB])
      rw [hkk] at q1
      have hkb : ((4 : Int) == 1) = false := by decide
      go_wp2_with fail
      go_region
      rw [HL.out]
      have A3 := hide (below_alloc w2 (.cells #[.string (str [111]), .string (str e.path)] 9)).drew
      have RS : Hid (ReadsS (w2.alloc (.cells #[.string (str [111]), .string (str e.path)] 9)).drew (some ⟨w2.heap.size, 0, none⟩) [[111], e.path]) := hide (reads_two w2 [111] e.path)
      generalize (w2.alloc (.cells #[.string (str [111]), .string (str e.path)] 9)).drew = W3 at *
      generalize w2.heap.size = b3 at RS ⊢
      have X3 := hide (X2.out.below A3.out)
      have B3 := hide (below_next B2.out A3.out)
      have hq1 := (M2.out.below A3.out).2.1
      rw [hkk] at hq1
      clear q0 q1 q2 q3
      go_wp2_with fail
      refine (joinMark_any 32 _ 2 2 [[111], e.path] _ RS.out (by simp) rfl (Nat.le_refl _) (by simp) (by simp [joinC]; omega)).mono ?_
      rintro r w4 ⟨rfl, hb4⟩
      rw [HT.out]
      obtain ⟨⟨t0, t1⟩, t2, t3⟩ := X3.out.below hb4
      have B4 := hide (below_next B3.out hb4)
      clear hb4
      go_wp2_with fail
      exact bodyPost_ret (v := .agg #[.int .i64 0, .string (str (textE e))]) (by simp [results, Tryz.results12, go_sem, t0, t1]) rfl ⟨by rw [HMF.out, HP.out], (B4.out.setCell (p := ⟨w.heap.size + 1, 0, none⟩) (Nat.le_succ _) _).setCell (p := ⟨w.heap.size + 1, 1, none⟩) (Nat.le_succ _) _⟩
  · have HP := hide (entText_bad hf)
    have hne : (entFault e != 0) = true := by simp; exact hf
    obtain ⟨⟨t0, t1⟩, t2, t3⟩ := X2.out
    go_wp2_with fail
    exact bodyPost_ret (v := .agg #[.int .i64 (entFault e), .string ⟨#[]⟩]) (by simp [results, Tryz.results12, go_sem, t0, t1]) rfl ⟨by rw [HP.out]; rfl, (B2.out.setCell (p := ⟨w.heap.size + 1, 0, none⟩) (Nat.le_succ _) _).setCell (p := ⟨w.heap.size + 1, 1, none⟩) (Nat.le_succ _) _⟩
end Go.Proofs.YtlbccbikepkfiaaGreatDoor

namespace Go.Proofs.YtlbccbikepkfiaaGreatDoor
open Go.RowKit
set_option linter.unusedVariables false

/-- The place of the first entry of a path. -/
def atE (es : List En) (p : Bs) : Option Nat := es.findIdx? fun e => decide (e.path = p)

theorem str_toList (a : Bs) : (str a).toList = a := by rw [ByteArray.toList_eq, str_data]
theorem str_yes {a b : Bs} (h : a = b) : ((str a).toList == (str b).toList) = true := by rw [h]; simp
theorem str_no {a b : Bs} (h : a ≠ b) : ((str a).toList == (str b).toList) = false := by rw [str_toList, str_toList, beq_eq_false_iff_ne]; exact h
theorem str_beq (a b : Bs) : ((str a).toList == (str b).toList) = decide (a = b) := by
  by_cases h : a = b
  · rw [str_yes h, decide_eq_true h]
  · rw [str_no h, decide_eq_false h]
def placeI (o : Option Nat) : Int := match o with | some i => (i : Int) | none => -1
theorem drop_at {α : Type} {es : List α} {k : Nat} {e : α} (h : es[k]? = some e) : es.drop k = e :: es.drop (k + 1) := by
  obtain ⟨hk, he⟩ := List.getElem?_eq_some_iff.1 h
  rw [List.drop_eq_getElem_cons hk, he]
theorem atE_hit {es : List En} {p : Bs} {k : Nat} {e : En} (h : es[k]? = some e) (hi : atE es p = (atE (es.drop k) p).map (· + k)) (hp : e.path = p) : atE es p = some k := by
  rw [hi, drop_at h]; simp [atE, List.findIdx?_cons, hp]
theorem atE_miss {es : List En} {p : Bs} {k : Nat} {e : En} (h : es[k]? = some e) (hi : atE es p = (atE (es.drop k) p).map (· + k)) (hp : e.path ≠ p) : atE es p = (atE (es.drop (k + 1)) p).map (· + (k + 1)) := by
  rw [hi, drop_at h]
  simp only [atE, List.findIdx?_cons, hp, decide_false, Bool.false_eq_true, if_false, Option.map_map]
  congr 1
  funext x
  simp only [Function.comp]
  omega
theorem atE_end {es : List En} {p : Bs} {k : Nat} (hk : es.length ≤ k) (hi : atE es p = (atE (es.drop k) p).map (· + k)) : atE es p = none := by
  rw [hi, List.drop_eq_nil_of_le hk]; rfl
theorem atE_find (es : List En) (p : Bs) : findE es p = (atE es p).bind (fun i => es[i]?) := by
  unfold findE atE
  induction es with
  | nil => rfl
  | cons e r ih =>
    by_cases h : e.path = p
    · simp [List.findIdx?_cons, h]
    · simp only [List.findIdx?_cons, List.find?_cons, h, decide_false, Bool.false_eq_true, if_false, ih]
      cases List.findIdx? (fun e => decide (e.path = p)) r <;> simp
theorem atE_lt {es : List En} {p : Bs} {k : Nat} (h : atE es p = some k) : k < es.length := by
  unfold atE at h
  exact (List.findIdx?_eq_some_iff_getElem.1 h).1

set_option maxRecDepth 100000 in
set_option maxHeartbeats 800000 in
theorem l4At_any (a : Option Addr) (c n : Nat) (es : List En) (p : Bs) (w : World) (h : RdE w a es) (hn : n = es.length) (hl : es.length ≤ 1048576) :
    Calls Tryz.prog 43 #[.slice a n c, .string (str p)] w fun r w' => r = .returned (.int .i64 (placeI (atE es p))) ∧ w' = w := by
  subst hn
  have HR := hide h
  clear h
  go_enter Tryz.func43, Tryz.ntmps43
  go_wp2_with fail
  go_loop [5] (fun i => ∃ k : Nat, k ≤ es.length ∧ i = .int .i64 k ∧ Hid (atE es p = (atE (es.drop k) p).map (· + k))) (fun i => es.length - (intOf i).toNat)
  case atStart => exact ⟨0, Nat.zero_le _, rfl, hide (by simp)⟩
  case round =>
    obtain ⟨k, hk, rfl, HA⟩ := hrel
    by_cases hlt : k < es.length
    · obtain ⟨b, off, e, x, cc, rfl, hb, he, c0, c1, c2, c3, hr⟩ := HR.out.at hlt
      have HX := hide he
      clear he hr
      by_cases hp : e.path = p
      · have HE := hide (atE_hit HX.out HA.out hp)
        have hs := str_yes hp
        clear hp
        go_wp2_with fail
        go_ret
        exact ⟨ret_int (by rw [HE.out]; rfl), rfl⟩
      · have HE := hide (atE_miss HX.out HA.out hp)
        have hs := str_no hp
        clear hp
        go_wp2_with fail
        go_round
        case rel => exact ⟨k + 1, by omega, by go_num, HE⟩
        case measure => simp [intOf]; omega
    · have HE := hide (atE_end (by omega) HA.out)
      go_wp2_with fail
      go_ret
      exact ⟨ret_int (by rw [HE.out]; rfl), rfl⟩
theorem l4IsDir_any (b o : Nat) (k : Int) (w : World) (h : w.cell? ⟨b, o + 1, none⟩ = some (.int .i64 k)) :
    Calls Tryz.prog 44 #[.pointer (some ⟨b, o, none⟩)] w fun r w' => r = .returned (.bool (dirK k)) ∧ w' = w := by
  by_cases h2 : k = 2
  · have hk : dirK k = true := by simp [dirK, h2]
    rw [hk]
    subst h2
    go_enter Tryz.func44, Tryz.ntmps44
    go_wp2_with fail
    go_ret
    exact ⟨rfl, rfl⟩
  · have hk : dirK k = (k == 4) := by simp [dirK, h2]; rfl
    have hf : (k == 2) = false := by simp; exact h2
    rw [hk]
    go_enter Tryz.func44, Tryz.ntmps44
    go_wp2_with fail
    go_ret
    exact ⟨rfl, rfl⟩
theorem homeE_top {es : List En} {p : Bs} (h : parentP p = []) : homeE es p = true := by simp [homeE, h]
theorem homeE_none {es : List En} {p : Bs} (h : parentP p ≠ []) (ha : atE es (parentP p) = none) : homeE es p = false := by simp [homeE, h, atE_find, ha]
theorem homeE_some {es : List En} {p : Bs} {k : Nat} {e : En} (h : parentP p ≠ []) (ha : atE es (parentP p) = some k) (he : es[k]? = some e) : homeE es p = dirK e.kind := by simp [homeE, h, atE_find, ha, he]
theorem str_empty (a : Bs) : (str a).toList.isEmpty = decide (a = []) := by rw [str_toList]; cases a <;> rfl

set_option maxRecDepth 100000 in
set_option maxHeartbeats 800000 in
theorem l4Home_any (a : Option Addr) (c n : Nat) (es : List En) (p : Bs) (w : World) (h : RdE w a es) (hn : n = es.length) (hl : es.length ≤ 1048576) (h1 : 1 ≤ p.length) (hp : p.length ≤ 1048576) :
    Calls Tryz.prog 53 #[.slice a n c, .string (str p)] w fun r w' => r = .returned (.bool (homeE es p)) ∧ Below w.heap.size w w' := by
  subst hn
  have HR := hide h
  clear h
  have HP := hide (show (aboveN (cutB (str p).data.toList.tail)).getLastD [] = parentP p from by rw [str_data]; rfl)
  by_cases hq : parentP p = []
  · have HE := hide (homeE_top (es := es) hq)
    have hs := (str_empty (parentP p)).trans (decide_eq_true hq)
    clear hq
    go_enter Tryz.func53, Tryz.ntmps53
    go_wp2_with fail
    refine (l3Parent_any _ _ (by rw [str_size]; omega) (by rw [str_size]; omega)).mono ?_
    rintro r w1 ⟨rfl, hb⟩
    rw [HP.out]
    have HB := hide hb
    clear hb
    go_wp2_with fail
    go_ret
    exact ⟨by rw [HE.out]; rfl, HB.out⟩
  · have hs := (str_empty (parentP p)).trans (decide_eq_false hq)
    cases ha : atE es (parentP p) with
    | none =>
      have HE := hide (homeE_none hq ha)
      have HA := hide ha
      clear hq ha
      go_enter Tryz.func53, Tryz.ntmps53
      go_wp2_with fail
      refine (l3Parent_any _ _ (by rw [str_size]; omega) (by rw [str_size]; omega)).mono ?_
      rintro r w1 ⟨rfl, hb⟩
      rw [HP.out]
      have HB := hide hb
      have HR1 := hide (HR.out.below hb)
      clear hb
      go_wp2_with fail
      refine (l4At_any _ _ _ es _ _ HR1.out rfl hl).mono ?_
      rintro r w2 ⟨rfl, rfl⟩
      rw [HA.out]
      simp only [placeI]
      go_wp2_with fail
      go_ret
      exact ⟨by rw [HE.out]; rfl, HB.out⟩
    | some k =>
      have hk := atE_lt ha
      obtain ⟨e, he⟩ : ∃ e, es[k]? = some e := ⟨es[k], List.getElem?_eq_getElem hk⟩
      have HE := hide (homeE_some hq ha he)
      have HA := hide ha
      have HX := hide he
      clear hq ha he
      go_enter Tryz.func53, Tryz.ntmps53
      go_wp2_with fail
      refine (l3Parent_any _ _ (by rw [str_size]; omega) (by rw [str_size]; omega)).mono ?_
      rintro r w1 ⟨rfl, hb⟩
      rw [HP.out]
      have HB := hide hb
      have HR1 := hide (HR.out.below hb)
      clear hb
      go_wp2_with fail
      refine (l4At_any _ _ _ es _ _ HR1.out rfl hl).mono ?_
      rintro r w2 ⟨rfl, rfl⟩
      rw [HA.out]
      simp only [placeI]
      obtain ⟨b, off, e', x, cc, rfl, hbl, he', c0, c1, c2, c3, hr⟩ := HR1.out.at hk
      have : e' = e := Option.some.inj (he'.symm.trans HX.out)
      subst this
      clear he' hr
      go_wp2_with fail
      refine (l4IsDir_any _ _ _ _ c1).mono ?_
      rintro r w3 ⟨rfl, rfl⟩
      go_wp2_with fail
      go_ret
      exact ⟨by rw [HE.out]; rfl, HB.out⟩

theorem entFault_zero {e : En} (h : entFault e = 0) : faultP e.path = 0 := by
  by_cases hf : faultP e.path = 0
  · exact hf
  · rw [entFault_path hf] at h; exact absurd h hf
theorem faultP_nil : faultP [] ≠ 0 := by decide
theorem path_pos {p : Bs} (h : faultP p = 0) : 1 ≤ p.length := by
  cases p with
  | nil => exact absurd h faultP_nil
  | cons c r => simp
theorem layFault_many {es : List En} (h : 12 < es.length) : layFault es = 2 := by simp [layFault, h]
theorem layFault_few {es : List En} (h : ¬ 12 < es.length) : layFault es = layFrom es (prevE es 0) (es.drop 0) := by simp [layFault, h, prevE]
theorem layFrom_bad {es : List En} {k : Nat} {e : En} {F : Int} (hF : F = layFrom es (prevE es k) (es.drop k)) (he : es[k]? = some e) (h : entFault e ≠ 0) : F = entFault e := by
  have hb : entBad es (prevE es k) e = entFault e := by simp [entBad, h]
  rw [hF, layFrom_step he, hb, if_neg h]
theorem layFrom_low {es : List En} {k : Nat} {e : En} {F : Int} (hF : F = layFrom es (prevE es k) (es.drop k)) (he : es[k]? = some e) (h : entFault e = 0) (hl : lowE (prevE es k) e = true) : F = 1 := by
  have hb : entBad es (prevE es k) e = 1 := by simp [entBad, h, hl]
  rw [hF, layFrom_step he, hb]; rfl
theorem layFrom_home {es : List En} {k : Nat} {e : En} {F : Int} (hF : F = layFrom es (prevE es k) (es.drop k)) (he : es[k]? = some e) (h : entFault e = 0) (hl : lowE (prevE es k) e = false) (hh : homeE es e.path = false) : F = 9 := by
  have hb : entBad es (prevE es k) e = 9 := by simp [entBad, h, hl, hh]
  rw [hF, layFrom_step he, hb]; rfl
theorem layFrom_next {es : List En} {k : Nat} {e : En} {F : Int} (hF : F = layFrom es (prevE es k) (es.drop k)) (he : es[k]? = some e) (h : entFault e = 0) (hl : lowE (prevE es k) e = false) (hh : homeE es e.path = true) : F = layFrom es (prevE es (k + 1)) (es.drop (k + 1)) := by
  have hb : entBad es (prevE es k) e = 0 := by simp [entBad, h, hl, hh]
  rw [hF, layFrom_step he, hb]; rfl
theorem layFrom_end {es : List En} {k : Nat} {F : Int} (hF : F = layFrom es (prevE es k) (es.drop k)) (hk : es.length ≤ k) : F = 0 := by
  rw [hF, List.drop_eq_nil_of_le hk]; cases prevE es k <;> rfl

set_option maxRecDepth 100000 in
set_option maxHeartbeats 1600000 in
theorem l4Fault_any (a : Option Addr) (c n : Nat) (es : List En) (w : World) (h : RdE w a es) (hn : n = es.length) (hl : es.length ≤ 1048576) (hs : SmallE es) :
    Calls Tryz.prog 26 #[.slice a n c] w fun r w' => r = .returned (.int .i64 (layFault es)) ∧ Below w.heap.size w w' := by
  subst hn
  by_cases hm : 12 < es.length
  · have HE := hide (layFault_many hm)
    have hm2 : (12 : Int) < (es.length : Int) := by omega
    go_enter Tryz.func26, Tryz.ntmps26
    go_wp2_with fail
    go_ret
    exact ⟨ret_int HE.out.symm, Below.refl _ _⟩
  · have HE := hide (layFault_few hm)
    have hm2 : ¬ (12 : Int) < (es.length : Int) := by omega
    generalize layFault es = F at HE ⊢
    have HR := hide h
    have HS := hide hs
    clear h hs
    go_enter Tryz.func26, Tryz.ntmps26
    go_wp2_with fail
    go_loopw [3] (fun i wr => ∃ k : Nat, k ≤ es.length ∧ i = .int .i64 k ∧ Hid (F = layFrom es (prevE es k) (es.drop k)) ∧ Hid (Below w.heap.size w wr)) (fun i _ => es.length - (intOf i).toNat)
    case atStart => exact ⟨0, Nat.zero_le _, rfl, HE, hide (Below.refl _ _)⟩
    case round =>
      obtain ⟨k, hk, rfl, HF, HW⟩ := hrel
      have HR1 := hide (HR.out.below HW.out)
      by_cases hlt : k < es.length
      · obtain ⟨b, off, e, x, cc, rfl, hb, he, c0, c1, c2, c3, hr⟩ := HR1.out.at hlt
        have HX := hide he
        have HRc := hide hr
        have hsm := HS.out e (List.mem_of_getElem? he)
        clear he hr
        by_cases hz : entFault e = 0
        · have hpos := path_pos (entFault_zero hz)
          have HZ := hide hz
          clear hz
          go_wp2_with fail
          refine (specEntryFault_any e _ _ _ _ HRc.out rfl hsm.1 hsm.2).mono ?_
          rintro r w1 ⟨rfl, hb1⟩
          rw [HZ.out]
          have HW1 := hide (below_next HW.out hb1)
          have HR2 := hide (HR1.out.below hb1)
          clear hb1 c0 c1 c2 c3 HW HRc
          obtain ⟨b', off', e', x', cc', hbb, hb', he', c0, c1, c2, c3, hr'⟩ := HR2.out.at hlt
          simp only [Option.some.injEq, Addr.mk.injEq, and_true] at hbb
          obtain ⟨rfl, rfl⟩ := hbb
          have : e' = e := Option.some.inj (he'.symm.trans HX.out)
          subst this
          clear he' hr' c1 c2 c3 HR1
          cases k with
          | zero =>
            have HL := hide (show lowE (prevE es 0) e' = false from rfl)
            simp only [Nat.zero_mul, Nat.add_zero] at c0
            go_wp2_with fail
            go_quiet (fail)
            go_wp2_with fail
            have HW2 := hide (below_drewN HW1.out nq)
            have HR3 := hide (HR2.out.below (below_drewN (Below.refl w1.heap.size w1) nq))
            clear HW1 HR2
            have hw3 : ∀ o, (w1.drewN nq).cell? ⟨b, o, none⟩ = w1.cell? ⟨b, o, none⟩ := fun _ => rfl
            generalize w1.drewN nq = W at *
            have HH := hide (l4Home_any _ c es.length es e'.path W HR3.out rfl (by omega) hpos hsm.1)
            cases hh : homeE es e'.path
            · have HO := hide (layFrom_home HF.out HX.out HZ.out HL.out hh)
              refine HH.out.mono ?_
              rintro r w4 ⟨rfl, hb4⟩
              rw [hh]
              clear hh
              have HW3 := hide (below_next HW2.out hb4)
              clear hb4
              go_wp2_with fail
              go_ret
              exact ⟨ret_int HO.out.symm, HW3.out⟩
            · have HO := hide (layFrom_next HF.out HX.out HZ.out HL.out hh)
              refine HH.out.mono ?_
              rintro r w4 ⟨rfl, hb4⟩
              rw [hh]
              clear hh
              have HW3 := hide (below_next HW2.out hb4)
              clear hb4
              go_wp2_with fail
              go_roundw
              case rel => exact ⟨1, by omega, by go_num, HO, HW3⟩
              case measure => simp [intOf]; omega
          | succ j =>
            have hg : (0 : Int) < ((j + 1 : Nat) : Int) := by omega
            obtain ⟨b2, off2, e2, x2, cc2, hbb, hb2, he2, d0, d1, d2, d3, hr2⟩ := HR2.out.at (show j < es.length by omega)
            simp only [Option.some.injEq, Addr.mk.injEq, and_true] at hbb
            obtain ⟨rfl, rfl⟩ := hbb
            have HL := hide (show lowE (prevE es (j + 1)) e' = (Op.bytesLess e'.path e2.path || (e'.path == e2.path)) from by simp [prevE, lowE, he2])
            clear he2 d1 d2 d3 hr2
            cases hlow : (Op.bytesLess (str e'.path).toList (str e2.path).toList || ((str e'.path).toList == (str e2.path).toList))
            · have HL2 := hide (show lowE (prevE es (j + 1)) e' = false from by rw [HL.out]; rw [str_toList, str_toList] at hlow; exact hlow)
              go_wp2_with fail
              go_quiet (fail)
              go_wp2_with fail
              have HW2 := hide (below_drewN HW1.out nq)
              have HR3 := hide (HR2.out.below (below_drewN (Below.refl w1.heap.size w1) nq))
              clear HW1 HR2
              have hw3 : ∀ o, (w1.drewN nq).cell? ⟨b, o, none⟩ = w1.cell? ⟨b, o, none⟩ := fun _ => rfl
              generalize w1.drewN nq = W at *
              have HH := hide (l4Home_any _ c es.length es e'.path W HR3.out rfl (by omega) hpos hsm.1)
              cases hh : homeE es e'.path
              · have HO := hide (layFrom_home HF.out HX.out HZ.out HL2.out hh)
                refine HH.out.mono ?_
                rintro r w4 ⟨rfl, hb4⟩
                rw [hh]
                clear hh
                have HW3 := hide (below_next HW2.out hb4)
                clear hb4
                go_wp2_with fail
                go_ret
                exact ⟨ret_int HO.out.symm, HW3.out⟩
              · have HO := hide (layFrom_next HF.out HX.out HZ.out HL2.out hh)
                refine HH.out.mono ?_
                rintro r w4 ⟨rfl, hb4⟩
                rw [hh]
                clear hh
                have HW3 := hide (below_next HW2.out hb4)
                clear hb4
                go_wp2_with fail
                go_roundw
                case rel => exact ⟨j + 1 + 1, by omega, by go_num, HO, HW3⟩
                case measure => simp [intOf]; omega
            · have HL2 := hide (show lowE (prevE es (j + 1)) e' = true from by rw [HL.out]; rw [str_toList, str_toList] at hlow; exact hlow)
              have HO := hide (layFrom_low HF.out HX.out HZ.out HL2.out)
              go_wp2_with fail
              go_quiet (fail)
              go_wp2_with fail
              go_ret
              exact ⟨ret_int HO.out.symm, below_drewN HW1.out _⟩
        · have HZ := hide (layFrom_bad HF.out HX.out hz)
          have hz2 : (entFault e != 0) = true := by simp; exact hz
          clear hz
          go_wp2_with fail
          refine (specEntryFault_any e _ _ _ _ HRc.out rfl hsm.1 hsm.2).mono ?_
          rintro r w1 ⟨rfl, hb1⟩
          have HW1 := hide (below_next HW.out hb1)
          clear hb1
          go_wp2_with fail
          go_ret
          exact ⟨ret_int HZ.out.symm, HW1.out⟩
      · have HZ := hide (layFrom_end HF.out (by omega))
        go_wp2_with fail
        go_ret
        exact ⟨ret_int HZ.out.symm, HW.out⟩

set_option maxRecDepth 100000 in
theorem specLayerFault_any (a : Option Addr) (c n : Nat) (es : List En) (w : World) (h : RdE w a es) (hn : n = es.length) (hl : es.length ≤ 1048576) (hs : SmallE es) :
    Calls Tryz.prog 10 #[.slice a n c] w fun r w' => r = .returned (.int .i64 (layFault es)) ∧ Below w.heap.size w w' := by
  have HF := hide (l4Fault_any a c n es w h hn hl hs)
  clear hn hl
  generalize layFault es = F at HF ⊢
  clear h hs
  go_enter Tryz.func10, Tryz.ntmps10
  go_wp2_with fail
  refine HF.out.mono ?_
  rintro r w1 ⟨rfl, hb⟩
  have HB := hide hb
  clear hb
  go_wp2_with fail
  go_ret
  exact ⟨rfl, HB.out⟩
/-- What a layer and a path that are asked for answer. -/
def askE (es : List En) (p : Bs) : Int := if layFault es = 0 then faultP p else layFault es

end Go.Proofs.YtlbccbikepkfiaaGreatDoor

namespace Go.Proofs.YtlbccbikepkfiaaGreatDoor
open Go.RowKit
set_option linter.unusedVariables false

theorem reads_news {w : World} {b off : Nat} {zs : List Int} {k : IntKind} (hc : ∀ i, i < zs.length → w.cell? ⟨b, off + i, none⟩ = some (.int k (zs.getD i 0))) :
    ∀ j u, (zs.map (Value.int k))[j]? = some u → w.cell? ((⟨b, off, none⟩ : Addr).add j) = some u := by
  intro j u hj
  have hadd : (⟨b, off, none⟩ : Addr).add j = ⟨b, off + j, none⟩ := by unfold Addr.add; split <;> simp_all
  have hjl : j < zs.length := by
    rcases Nat.lt_or_ge j zs.length with h | h
    · exact h
    · rw [List.getElem?_eq_none (by simpa using h)] at hj; simp at hj
  rw [hadd, hc j hjl]
  simp [hjl] at hj
  simp [List.getD_eq_getElem?_getD, hjl, hj]

theorem ints_one (k : IntKind) (zs : List Int) : ∀ u ∈ zs.map (Value.int k), u.oneCell' = true := by
  intro u hu
  obtain ⟨z, _, rfl⟩ := List.mem_map.1 hu
  rfl

theorem own_of_ownsRow {w : World} {base : Nat} {e : TypeId} {k : IntKind} {v : Value} {n : Nat} {zs : List Int} (h : w.ownsRow base e 1 v n (zs.map (Value.int k))) (hn : n = zs.length) (hz : 0 < n) :
    ∃ g cap, v = .slice (some ⟨g, 0, none⟩) n cap ∧ base ≤ g ∧ g < w.heap.size ∧ Own k w (some ⟨g, 0, none⟩) zs := by
  obtain ⟨g, cap, hv, hg, hgl, hc, hf⟩ := ownsRow_ints h hn hz
  exact ⟨g, cap, hv, hg, hgl, fun _ => ⟨g, 0, rfl, hgl, fun i hi => ⟨by rw [Nat.zero_add]; exact hc i (by omega), hf _⟩⟩⟩

/-- append(T(nil or empty), x...): x not empty: a new row that holds x. -/
theorem wpList_append_fresh {P : Program} {wr : World} {ops : Array Oper} {rest : List Oper} {o : Oper} {a : Act} {Q : Exit → Act → World → Prop} (hgd : o.guard = none) (s x : Operand) (t : TypeId)
    (ho : o.op = .call { callee := .builtin .append, args := #[s, x], argTypes := #[t, t] })
    (e : TypeId) (i : TypeInfo) (k : IntKind) (bytes : Nat) (ht : P.underlying t = some (.slice e)) (hi : P.info? e = some i) (hz : i.zero = some (.int k 0))
    (hsize : i.size = 1) (hby : i.bytes = bytes) (hs : a.eval s = .slice (some ⟨wr.heap.size, 0, none⟩) 0 0)
    (b off n cap : Nat) (zs : List Int) (hx : a.eval x = .slice (some ⟨b, off, none⟩) n cap) (hn : n = zs.length) (hb : b < wr.heap.size) (hc : ∀ i, i < zs.length → wr.cell? ⟨b, off + i, none⟩ = some (.int k (zs.getD i 0)))
    (h0 : 0 < zs.length) (h63 : zs.length ≤ maxLen) (hbytes : zs.length * bytes ≤ 140737488355328)
    (h : ∀ g c w', w'.ownsRow wr.heap.size e 1 (.slice (some ⟨g, 0, none⟩) n c) n (zs.map (Value.int k)) → wr.heap.size ≤ g → g < w'.heap.size → Below wr.heap.size wr w' → wpList P ops Q rest (a.put o.dst (.slice (some ⟨g, 0, none⟩) n c)) w') :
    wpList P ops Q (o :: rest) a (wr.alloc (.cells #[] e)) := by
  have hown : (wr.alloc (.cells #[] e)).ownsRow wr.heap.size e 1 (.slice (some ⟨wr.heap.size, 0, none⟩) 0 0) 0 [] := World.ownsRow_made wr #[] 0 (Nat.le_refl _) (Nat.zero_le _) rfl
  have hn2 : ∀ j u, (zs.map (Value.int k))[j]? = some u → (wr.alloc (.cells #[] e)).cell? ((⟨b, off, none⟩ : Addr).add j) = some u := fun j u hj => (World.grownBy_alloc wr (.cells #[] e) none).cell (reads_news hc j u hj) (by simp)
  refine wpList_append_own _ hgd s x t ho wr.heap.size e i (.int k 0) 1 bytes ht hi hz hsize hby rfl (by decide) _ _ _ hs hown ⟨b, off, none⟩ n cap (zs.map (Value.int k)) hx (by simp [hn]) hn2 (ints_one _ _) (by omega) (by rw [Nat.zero_add, hn]; exact hbytes) (by simp) ?_
  intro v' w' hown' hgrow _
  rw [Nat.zero_add, List.nil_append] at hown'
  obtain ⟨g, c, rfl, hg, hgl, _⟩ := own_of_ownsRow hown' hn (by omega)
  refine h g c w' hown' hg hgl ?_
  exact ((Below.refl _ _).alloc (Nat.le_refl _) _).grown hgrow (by simp) (fun k hk => by simp [Value.ownBlock] at hk; omega)


/-- Piece i of the bytes zs, of 8 bytes or what is left. -/
def piece (zs : List Int) (i : Nat) : List Int := (zs.drop (8 * i)).take 8
def cut (zs : List Int) : List (List Int) := (List.range ((zs.length + 7) / 8)).map (piece zs)
theorem cut_length (zs : List Int) : (cut zs).length = (zs.length + 7) / 8 := by simp [cut]
theorem cut_getD (zs : List Int) (i : Nat) (h : i < (cut zs).length) : (cut zs).getD i [] = piece zs i := by
  rw [cut_length] at h; simp [cut, List.getD_eq_getElem?_getD, h]
theorem piece_length (zs : List Int) (i : Nat) : (piece zs i).length = min 8 (zs.length - 8 * i) := by simp [piece]
theorem piece_getD (zs : List Int) (i t : Nat) (h : t < (piece zs i).length) : (piece zs i).getD t 0 = zs.getD (8 * i + t) 0 := by
  rw [piece_length] at h
  have h8 : t < 8 := by omega
  simp [piece, List.getD_eq_getElem?_getD, h8, List.getElem?_drop]

/-- v is a row of j byte slices, slice i holding P i, each in a block of its own from B on. -/
def Grow2 (B : Nat) (w : World) (v : Value) (P : Nat → List Int) (j : Nat) : Prop :=
  ∃ A C : Nat → Nat, w.ownsRow B 22 1 v j ((List.range j).map fun i => .slice (some ⟨A i, 0, none⟩) (P i).length (C i)) ∧
    (∀ i, i < j → w.ownsRow B 5 1 (.slice (some ⟨A i, 0, none⟩) (P i).length (C i)) (P i).length ((P i).map (Value.int .u8))) ∧
    ∀ i i', i < j → i' < j → A i = A i' → i = i'

theorem Grow2.below {B : Nat} {w w' : World} {v : Value} {P : Nat → List Int} {j : Nat} (h : Grow2 B w v P j) (hk : Below w.heap.size w w') : Grow2 B w' v P j := by
  obtain ⟨A, C, h1, h2, h3⟩ := h
  exact ⟨A, C, ownsRow_below h1 hk, fun i hi => ownsRow_below (h2 i hi) hk, h3⟩

theorem Grow2.push {B : Nat} {w w1 w2 : World} {v v' : Value} {P : Nat → List Int} {j g c : Nat} {A C : Nat → Nat}
    (h1 : w.ownsRow B 22 1 v j ((List.range j).map fun i => .slice (some ⟨A i, 0, none⟩) (P i).length (C i)))
    (h2 : ∀ i, i < j → w.ownsRow B 5 1 (.slice (some ⟨A i, 0, none⟩) (P i).length (C i)) (P i).length ((P i).map (Value.int .u8)))
    (h3 : ∀ i i', i < j → i' < j → A i = A i' → i = i') (hB : B ≤ w.heap.size) (hbel : Below w.heap.size w w1)
    {n1 n2 : Nat} (hown : w1.ownsRow w.heap.size 5 1 (.slice (some ⟨g, 0, none⟩) n1 c) n1 ((P j).map (Value.int .u8))) (hg : w.heap.size ≤ g)
    (hv' : w2.ownsRow B 22 1 v' (j + 1) ((List.range j).map (fun i => Value.slice (some ⟨A i, 0, none⟩) (P i).length (C i)) ++ [.slice (some ⟨g, 0, none⟩) n2 c]))
    (hk : Kept (fun b => v.ownBlock = some b) w1 w2) (hn1 : n1 = (P j).length) (hn2 : n2 = (P j).length) : Grow2 B w2 v' P (j + 1) := by
  subst hn1 hn2
  have hA : ∀ i, i < j → A i < w.heap.size := fun i hi => ((h2 i hi).lt (A i) rfl).2
  have k1 := ownsRow_below h1 hbel
  refine ⟨fun i => if i = j then g else A i, fun i => if i = j then c else C i, ?_, ?_, ?_⟩
  · rw [List.range_succ, List.map_append]
    have e : (List.range j).map (fun i => Value.slice (some ⟨if i = j then g else A i, 0, none⟩) (P i).length (if i = j then c else C i)) = (List.range j).map (fun i => Value.slice (some ⟨A i, 0, none⟩) (P i).length (C i)) := by
      apply List.map_congr_left
      intro i hi
      have : i ≠ j := by have := List.mem_range.1 hi; omega
      simp [this]
    rw [e]
    simpa using hv'
  · intro i hi
    by_cases e : i = j
    · subst e
      simp only [if_true]
      exact ownsRow_kept (ownsRow_mono hown hB) hk (fun b hb hS => ownsRow_apart k1 hown (by decide) hS hb)
    · simp only [if_neg e]
      have k2 := ownsRow_below (h2 i (by omega)) hbel
      exact ownsRow_kept k2 hk (fun b hb hS => ownsRow_apart k1 k2 (by decide) hS hb)
  · intro i i' hi hi' he
    by_cases e : i = j
    · by_cases e' : i' = j
      · omega
      · simp only [if_pos e, if_neg e'] at he
        have := hA i' (by omega)
        omega
    · by_cases e' : i' = j
      · simp only [if_neg e, if_pos e'] at he
        have := hA i (by omega)
        omega
      · simp only [if_neg e, if_neg e'] at he
        exact h3 i i' (by omega) (by omega) he

theorem Tryz.infoBs : (Tryz.prog.info? 22).map (fun i => (i.zero, i.size, i.bytes)) = some (some (.slice none 0 0), 1, 24) := by kernel_rfl

set_option maxRecDepth 100000 in
set_option maxHeartbeats 800000 in
theorem l1Cut_any (a : Option Addr) (cap : Nat) (zs : List Int) (w : World) (h : Reads .u8 w a zs) (hcap : zs.length ≤ cap) (hl : zs.length ≤ 1048576) :
    Calls Tryz.prog 123 #[.slice a zs.length cap] w fun e w' => ∃ v, e = .returned v ∧ Grow2 w.heap.size w' v (piece zs) (cut zs).length ∧ Below w.heap.size w w' := by
  obtain ⟨i0, hi, hz0, hz1, hz2⟩ := info_parts Tryz.infoU8
  obtain ⟨i1, ki, kz0, kz1, kz2⟩ := info_parts Tryz.infoBs
  go_enter Tryz.func123, Tryz.ntmps123
  go_wp2
  go_loopw [3, 4, 5] (fun v i _ wr => ∃ j : Nat, 8 * j < zs.length + 8 ∧ i = .int .i64 (8 * (j : Int)) ∧ Grow2 w.heap.size wr v (piece zs) j ∧ Below w.heap.size w wr) (fun _ i _ _ => zs.length + 8 - (intOf i).toNat)
  case atStart => exact ⟨0, by omega, rfl, ⟨fun _ => 0, fun _ => 0, World.ownsRow_made w #[] 0 (Nat.le_refl _) (Nat.zero_le _) rfl, fun i hi => absurd hi (by omega), fun i i' hi => absurd hi (by omega)⟩, (Below.refl _ _).alloc (Nat.le_refl _) _⟩
  case round =>
    obtain ⟨j, hj, rfl, hgrow, hbel⟩ := hrel
    have hsz := hbel.size
    by_cases hlt : 8 * j < zs.length
    · obtain ⟨b, off, rfl, hb, hc⟩ := h (by intro e; simp [e] at hlt)
      obtain ⟨A, C, h1, h2, h3⟩ := hgrow
      have hlt' : 8 * (j : Int) < (zs.length : Int) := by omega
      have H1 := hide h1
      have H2 := hide h2
      have H3 := hide h3
      have HB := hide hbel
      have HC := hide hc
      clear h1 h2 h3 hbel hc h
      have hb' : b < wr.heap.size := Nat.lt_of_lt_of_le hb hsz
      have hcp : ∀ t, t < (piece zs j).length → wr.cell? ⟨b, off + 8 * j + t, none⟩ = some (.int .u8 ((piece zs j).getD t 0)) := fun t ht => by
        rw [piece_getD zs j t ht, Nat.add_assoc]
        exact (HB.out.cell (p := ⟨b, off + (8 * j + t), none⟩) hb).trans (HC.out (8 * j + t) (by rw [piece_length] at ht; omega))
      have HCP := hide hcp
      have hp0 : 0 < (piece zs j).length := by rw [piece_length]; omega
      have hp1 : (piece zs j).length ≤ maxLen := by rw [piece_length]; unfold maxLen; omega
      have hp2 : (piece zs j).length * 1 ≤ 140737488355328 := by rw [piece_length]; omega
      have hm1 : j + 1 ≤ maxLen := by unfold maxLen; omega
      have hm2 : (j + 1) * 24 ≤ 140737488355328 := by omega
      clear hcp
      by_cases hm : (zs.length : Int) < 8 * (j : Int) + 8
      · have hpl : zs.length - 8 * j = (piece zs j).length := by rw [piece_length]; omega
        have HPL := hide hpl
        clear hpl
        go_wp2_with (first | (at_builtin; refine wpList_append_fresh rfl (.tmp 19) (.tmp 23) 22 rfl 5 i0 .u8 1 Tryz.underlying22 hi hz0 hz1 hz2 rfl b (off + 8 * j) (zs.length - 8 * j) (cap - 8 * j) (piece zs j) rfl HPL.out hb' HCP.out hp0 hp1 hp2 ?_; intro g c w1 hown1 hg1 hgl1 hbel1; have k1 := hide (ownsRow_below H1.out hbel1); have HO1 := hide hown1; have HB1 := hide hbel1; have hsz1 : w.heap.size ≤ w1.heap.size := Nat.le_trans hsz hbel1.size; clear hown1 hbel1) | (at_builtin; refine wpList_append_one rfl (.tmp 18) (.tmp 25) 157 rfl w.heap.size 22 i1 (.slice none 0 0) 1 24 Tryz.underlying157 ki kz0 kz1 kz2 rfl (by decide) _ _ _ rfl k1.out rfl rfl (by intro u hu; simp at hu; subst hu; rfl) hm1 hm2 hsz1 ?_; intro v' w2 hown2 hkept; have hG : Hid (Grow2 w.heap.size w2 v' (piece zs) (j + 1)) := Grow2.push H1.out H2.out H3.out hsz HB1.out HO1.out hg1 hown2 hkept HPL.out (by first | exact HPL.out | (have := HPL.out; omega)); have hB2 := hide (Kept.below_own (HB.out.trans (HB1.out.mono hsz)) hsz1 k1.out hkept); clear hown2 hkept k1) | go_in)
        go_roundw
        case rel => exact ⟨j + 1, by omega, by go_num, hG.out, hB2.out⟩
        case measure => simp [intOf]; omega
      · have hpl : 8 * j + 8 - 8 * j = (piece zs j).length := by rw [piece_length]; omega
        have HPL := hide hpl
        clear hpl
        go_wp2_with (first | (at_builtin; refine wpList_append_fresh rfl (.tmp 19) (.tmp 23) 22 rfl 5 i0 .u8 1 Tryz.underlying22 hi hz0 hz1 hz2 rfl b (off + 8 * j) (8 * j + 8 - 8 * j) (cap - 8 * j) (piece zs j) rfl HPL.out hb' HCP.out hp0 hp1 hp2 ?_; intro g c w1 hown1 hg1 hgl1 hbel1; have k1 := hide (ownsRow_below H1.out hbel1); have HO1 := hide hown1; have HB1 := hide hbel1; have hsz1 : w.heap.size ≤ w1.heap.size := Nat.le_trans hsz hbel1.size; clear hown1 hbel1) | (at_builtin; refine wpList_append_one rfl (.tmp 18) (.tmp 25) 157 rfl w.heap.size 22 i1 (.slice none 0 0) 1 24 Tryz.underlying157 ki kz0 kz1 kz2 rfl (by decide) _ _ _ rfl k1.out rfl rfl (by intro u hu; simp at hu; subst hu; rfl) hm1 hm2 hsz1 ?_; intro v' w2 hown2 hkept; have hG : Hid (Grow2 w.heap.size w2 v' (piece zs) (j + 1)) := Grow2.push H1.out H2.out H3.out hsz HB1.out HO1.out hg1 hown2 hkept HPL.out (by first | exact HPL.out | (have := HPL.out; omega)); have hB2 := hide (Kept.below_own (HB.out.trans (HB1.out.mono hsz)) hsz1 k1.out hkept); clear hown2 hkept k1) | go_in)
        go_roundw
        case rel => exact ⟨j + 1, by omega, by go_num, hG.out, hB2.out⟩
        case measure => simp [intOf]; omega
    · have hje : j = (cut zs).length := by rw [cut_length]; omega
      subst hje
      go_wp2
      go_ret
      exact ⟨_, rfl, hgrow, hbel⟩


theorem Grow2.mono {B B' : Nat} {w : World} {v : Value} {P : Nat → List Int} {j : Nat} (h : Grow2 B w v P j) (hB : B' ≤ B) : Grow2 B' w v P j := by
  obtain ⟨A, C, h1, h2, h3⟩ := h
  exact ⟨A, C, ownsRow_mono h1 hB, fun i hi => ownsRow_mono (h2 i hi) hB, h3⟩
theorem Grow2.kept {S : Nat → Prop} {B : Nat} {w w' : World} {v : Value} {P : Nat → List Int} {j : Nat} (h : Grow2 B w v P j) (hk : Kept S w w') (hS : ∀ b, B ≤ b → ¬ S b) : Grow2 B w' v P j := by
  obtain ⟨A, C, h1, h2, h3⟩ := h
  exact ⟨A, C, ownsRow_kept h1 hk (fun b hb => hS b (h1.lt b hb).1), fun i hi => ownsRow_kept (h2 i hi) hk (fun b hb => hS b ((h2 i hi).lt b hb).1), h3⟩





end Go.Proofs.YtlbccbikepkfiaaGreatDoor

namespace Go.Proofs.YtlbccbikepkfiaaGreatDoor
open Go.RowKit Go.Maps
set_option linter.unusedVariables false

theorem Tryz.infoEn : (Tryz.prog.info? 39).map (fun i => (i.zero, i.size, i.bytes)) = some (some (.agg #[.string ⟨#[]⟩, .int .i64 0, .int .i64 0, .slice none 0 0]), 4, 56) := by kernel_rfl

/-- An entry in memory: what it is, and where its chunks lie. -/
structure Rw where
  e : En
  a : Option Addr
  c : Nat
def cellsR (r : Rw) : List Value := [.string (str r.e.path), .int .i64 r.e.kind, .int .i64 r.e.size, .slice r.a r.e.chunks.length r.c]
def rowR (rs : List Rw) : List Value := rs.flatMap cellsR
theorem rowR_append (a b : List Rw) : rowR (a ++ b) = rowR a ++ rowR b := by simp [rowR]
theorem rowR_length : ∀ rs : List Rw, (rowR rs).length = rs.length * 4
  | [] => rfl
  | r :: rs => by
    have := rowR_length rs
    simp only [rowR, List.flatMap_cons, List.length_append, List.length_cons] at this ⊢
    rw [this]; simp [cellsR]; omega
theorem rowR_get : ∀ (rs : List Rw) (i q : Nat) (r : Rw), rs[i]? = some r → q < 4 → (rowR rs)[i * 4 + q]? = (cellsR r)[q]?
  | [], i, q, r, h, _ => by simp at h
  | x :: rs, 0, q, r, h, hq => by
    simp only [List.getElem?_cons_zero, Option.some.injEq] at h
    subst h
    simp only [rowR, List.flatMap_cons, Nat.zero_mul, Nat.zero_add]
    rw [List.getElem?_append_left (by simp [cellsR]; omega)]
  | x :: rs, i + 1, q, r, h, hq => by
    have := rowR_get rs i q r (by simpa using h) hq
    rw [← this]
    simp only [rowR, List.flatMap_cons]
    rw [List.getElem?_append_right (by simp [cellsR]; omega)]
    congr 1
    simp [cellsR]; omega
theorem rowR_drop : ∀ (rs : List Rw) (k : Nat), (rowR rs).drop (k * 4) = rowR (rs.drop k)
  | rs, 0 => by simp
  | [], k + 1 => by simp [rowR]
  | x :: rs, k + 1 => by
    have := rowR_drop rs k
    rw [List.drop_succ_cons, ← this]
    simp only [rowR, List.flatMap_cons]
    rw [show (k + 1) * 4 = (cellsR x).length + k * 4 from by simp [cellsR]; omega, List.drop_length_add_append]
theorem rowR_take : ∀ (rs : List Rw) (k : Nat), (rowR rs).take (k * 4) = rowR (rs.take k)
  | rs, 0 => by simp [rowR]
  | [], k + 1 => by simp [rowR]
  | x :: rs, k + 1 => by
    have := rowR_take rs k
    rw [List.take_succ_cons]
    simp only [rowR, List.flatMap_cons] at this ⊢
    rw [show (k + 1) * 4 = (cellsR x).length + k * 4 from by simp [cellsR]; omega, List.take_length_add_append, this]
theorem rowR_one (rs : List Rw) : ∀ u ∈ rowR rs, u.oneCell' = true := by
  intro u hu
  simp only [rowR, List.mem_flatMap] at hu
  obtain ⟨r, _, hr⟩ := hu
  simp only [cellsR, List.mem_cons, List.not_mem_nil, or_false] at hr
  rcases hr with rfl | rfl | rfl | rfl <;> rfl

/-- v is a row of entries; their chunks are read where they lie. -/
def SE (B : Nat) (w : World) (v : Value) (es : List En) : Prop :=
  ∃ rs : List Rw, rs.map Rw.e = es ∧ w.ownsRow B 39 4 v es.length (rowR rs) ∧ ∀ r ∈ rs, Reads .i64 w r.a r.e.chunks
/-- v is a row of entries, each one's chunks in a block of their own; all blocks from B on and below T. -/
def GE (B T : Nat) (w : World) (v : Value) (es : List En) : Prop :=
  ∃ rs : List Rw, rs.map Rw.e = es ∧ w.ownsRow B 39 4 v es.length (rowR rs) ∧
    (∀ r ∈ rs, w.ownsRow B 2 1 (.slice r.a r.e.chunks.length r.c) r.e.chunks.length (r.e.chunks.map (Value.int .i64))) ∧
    rs.Pairwise (fun r r' => ∀ g, r.a.map Addr.block = some g → r'.a.map Addr.block ≠ some g) ∧
    (∀ r ∈ rs, ∀ g, r.a.map Addr.block = some g → g < T) ∧ ∀ b, v.ownBlock = some b → b < T

theorem ownInts_reads {w : World} {B : Nat} {e : TypeId} {k : IntKind} {a : Option Addr} {n c : Nat} {zs : List Int} (h : w.ownsRow B e 1 (.slice a n c) n (zs.map (Value.int k))) (hn : n = zs.length) : Reads k w a zs := by
  intro hz
  have h0 : 0 < n := by rw [hn]; exact List.length_pos_iff.2 hz
  obtain ⟨g, cap, hv, hg, hgl, hc, hf⟩ := ownsRow_ints h hn h0
  simp only [Value.slice.injEq, true_and] at hv
  exact ⟨g, 0, hv.1, hgl, fun i hi => by rw [Nat.zero_add]; exact hc i (by omega)⟩
theorem GE.se {B T : Nat} {w : World} {v : Value} {es : List En} (h : GE B T w v es) : SE B w v es := by
  obtain ⟨rs, e, h1, h2, _⟩ := h
  exact ⟨rs, e, h1, fun r hr => ownInts_reads (h2 r hr) rfl⟩
theorem SE.shape {B : Nat} {w : World} {v : Value} {es : List En} (h : SE B w v es) : ∃ a c, v = .slice a es.length c := by
  obtain ⟨rs, _, h1, _⟩ := h
  exact ownsRow_shape h1
theorem SE.rd {B : Nat} {w : World} {a : Option Addr} {n c : Nat} {es : List En} (h : SE B w (.slice a n c) es) : RdE w a es := by
  intro hz
  obtain ⟨rs, he, h1, h2⟩ := h
  have h0 : 0 < es.length := List.length_pos_iff.2 hz
  have hl : rs.length = es.length := by rw [← he, List.length_map]
  rcases h1.2 with ⟨_, h0'⟩ | ⟨g, cap, cur, h', hb, hh, hnc, hcm, hcs, htake⟩
  · omega
  · simp only [Value.slice.injEq] at h'
    obtain ⟨rfl, rfl, rfl⟩ := h'
    refine ⟨g, 0, fun i => (rs[i]?.map Rw.a).getD none, fun i => (rs[i]?.map Rw.c).getD 0, rfl, (h1.lt g rfl).2, fun i e hi => ?_⟩
    have hi0 : i < es.length := (List.getElem?_eq_some_iff.1 hi).1
    obtain ⟨r, hr⟩ : ∃ r, rs[i]? = some r := ⟨rs[i]'(by omega), List.getElem?_eq_getElem (by omega)⟩
    have hre : r.e = e := by
      have : (rs.map Rw.e)[i]? = some r.e := by rw [List.getElem?_map, hr]; rfl
      rw [he, hi] at this
      exact (Option.some.inj this).symm
    have hc := fun q hq => (h1.cellAt (i * 4 + q) (by omega)).trans (rowR_get rs i q r hr hq)
    simp only [hr, Option.map_some, Option.getD_some, Nat.zero_add]
    rw [← hre]
    exact ⟨hc 0 (by decide), hc 1 (by decide), hc 2 (by decide), hc 3 (by decide), h2 r (List.mem_of_getElem? hr)⟩
theorem GE.rd {B T : Nat} {w : World} {a : Option Addr} {n c : Nat} {es : List En} (h : GE B T w (.slice a n c) es) : RdE w a es := h.se.rd
theorem SE.below {B : Nat} {w w' : World} {v : Value} {es : List En} (h : SE B w v es) (hk : Below w.heap.size w w') : SE B w' v es := by
  obtain ⟨rs, he, h1, h2⟩ := h
  exact ⟨rs, he, ownsRow_below h1 hk, fun r hr => (h2 r hr).below hk⟩
theorem own_block {a : Option Addr} {n c g : Nat} (hb : (Value.slice a n c).ownBlock = some g) : a.map Addr.block = some g := by
  cases a with
  | none => simp [Value.ownBlock] at hb
  | some x => simpa [Value.ownBlock] using hb
theorem block_own {a : Option Addr} {n c g : Nat} (hb : a.map Addr.block = some g) : (Value.slice a n c).ownBlock = some g := by
  cases a with
  | none => simp at hb
  | some x => simpa [Value.ownBlock] using hb
theorem GE.kept {S : Nat → Prop} {B T : Nat} {w w' : World} {v : Value} {es : List En} (h : GE B T w v es) (hk : Kept S w w') (hS : ∀ b, B ≤ b → b < T → ¬ S b) : GE B T w' v es := by
  obtain ⟨rs, he, h1, h2, h3, h4, h5⟩ := h
  exact ⟨rs, he, ownsRow_kept h1 hk (fun b hb => hS b (h1.lt b hb).1 (h5 b hb)), fun r hr => ownsRow_kept (h2 r hr) hk (fun b hb => hS b ((h2 r hr).lt b hb).1 (h4 r hr b (own_block hb))), h3, h4, h5⟩
theorem GE.below {B T : Nat} {w w' : World} {v : Value} {es : List En} (h : GE B T w v es) (hk : Below w.heap.size w w') : GE B T w' v es :=
  h.kept (S := fun _ => False) (Kept.of_below hk) (fun _ _ _ => id)
theorem GE.mono {B B' T : Nat} {w : World} {v : Value} {es : List En} (h : GE B T w v es) (hB : B' ≤ B) : GE B' T w v es := by
  obtain ⟨rs, he, h1, h2, h3, h4, h5⟩ := h
  exact ⟨rs, he, ownsRow_mono h1 hB, fun r hr => ownsRow_mono (h2 r hr) hB, h3, h4, h5⟩
theorem GE.wide {B T T' : Nat} {w : World} {v : Value} {es : List En} (h : GE B T w v es) (hT : T ≤ T') : GE B T' w v es := by
  obtain ⟨rs, he, h1, h2, h3, h4, h5⟩ := h
  exact ⟨rs, he, h1, h2, h3, fun r hr g hg => Nat.lt_of_lt_of_le (h4 r hr g hg) hT, fun b hb => Nat.lt_of_lt_of_le (h5 b hb) hT⟩
theorem GE.nil (B T : Nat) (w : World) : GE B T w (.slice none 0 0) [] :=
  ⟨[], rfl, World.ownsRow_nil _ _ _ _, fun r hr => by simp at hr, List.Pairwise.nil, fun r hr => by simp at hr, fun b hb => by simp [Value.ownBlock] at hb⟩
/-- One entry more at a list's end. -/
theorem GE.push {B : Nat} {w w1 w2 : World} {v v' : Value} {es : List En} {rs : List Rw} {e : En} {a : Option Addr} {c : Nat} (he : rs.map Rw.e = es)
    (h1 : w.ownsRow B 39 4 v es.length (rowR rs))
    (h2 : ∀ r ∈ rs, w.ownsRow B 2 1 (.slice r.a r.e.chunks.length r.c) r.e.chunks.length (r.e.chunks.map (Value.int .i64)))
    (h3 : rs.Pairwise (fun r r' => ∀ g, r.a.map Addr.block = some g → r'.a.map Addr.block ≠ some g)) (hB : B ≤ w.heap.size) (hbel : Below w.heap.size w w1)
    (hown : w1.ownsRow w.heap.size 2 1 (.slice a e.chunks.length c) e.chunks.length (e.chunks.map (Value.int .i64)))
    (hv' : w2.ownsRow B 39 4 v' (es.length + 1) (rowR rs ++ cellsR ⟨e, a, c⟩))
    (hk : Kept (fun b => v.ownBlock = some b) w1 w2) : GE B w2.heap.size w2 v' (es ++ [e]) := by
  have hA : ∀ r ∈ rs, ∀ g', r.a.map Addr.block = some g' → g' < w.heap.size := fun r hr g' hg => ((h2 r hr).lt g' (block_own hg)).2
  have hg0 : ∀ g', a.map Addr.block = some g' → w.heap.size ≤ g' ∧ g' < w1.heap.size := fun g' hg => hown.lt g' (block_own hg)
  have k1 := ownsRow_below h1 hbel
  have hsz := hk.size
  have hsz1 := hbel.size
  refine ⟨rs ++ [⟨e, a, c⟩], by rw [List.map_append, he]; rfl, ?_, ?_, ?_, ?_, fun b hb => (hv'.lt b hb).2⟩
  · rw [rowR_append, List.length_append]
    simpa [rowR] using hv'
  · intro r hr
    rcases List.mem_append.1 hr with hr | hr
    · have k2 := ownsRow_below (h2 r hr) hbel
      exact ownsRow_kept k2 hk (fun b hb hS => ownsRow_apart k1 k2 (by decide) hS hb)
    · simp only [List.mem_singleton] at hr
      subst hr
      exact ownsRow_kept (ownsRow_mono hown hB) hk (fun b hb hS => ownsRow_apart k1 hown (by decide) hS hb)
  · rw [List.pairwise_append]
    refine ⟨h3, List.pairwise_singleton _ _, fun r hr r' hr' g hg hg' => ?_⟩
    simp only [List.mem_singleton] at hr'
    subst hr'
    have := hA r hr g hg
    have := hg0 g hg'
    omega
  · intro r hr g hg
    rcases List.mem_append.1 hr with hr | hr
    · have := hA r hr g hg
      omega
    · simp only [List.mem_singleton] at hr
      subst hr
      have := hg0 g hg
      omega
/-- One entry more that shares its chunks. -/
theorem SE.push {B : Nat} {w w2 : World} {v v' : Value} {es : List En} {rs : List Rw} {e : En} {a : Option Addr} {c : Nat} (he : rs.map Rw.e = es)
    (h2 : ∀ r ∈ rs, Reads .i64 w2 r.a r.e.chunks) (hr : Reads .i64 w2 a e.chunks)
    (hv' : w2.ownsRow B 39 4 v' (es.length + 1) (rowR rs ++ cellsR ⟨e, a, c⟩)) : SE B w2 v' (es ++ [e]) := by
  refine ⟨rs ++ [⟨e, a, c⟩], by rw [List.map_append, he]; rfl, ?_, fun r hx => ?_⟩
  · rw [rowR_append, List.length_append]
    simpa [rowR] using hv'
  · rcases List.mem_append.1 hx with hx | hx
    · exact h2 r hx
    · simp only [List.mem_singleton] at hx
      subst hx
      exact hr

end Go.Proofs.YtlbccbikepkfiaaGreatDoor

namespace Go.Proofs.YtlbccbikepkfiaaGreatDoor
open Go.RowKit Go.Maps
set_option linter.unusedVariables false
attribute [local go_sem ↓] Go.wp_at_zero Go.wp_at_succ

/-- append(out, x...): out owned and made, x read, whether it has memory or not. -/
theorem wpList_append_take {P : Program} {wr : World} {ops : Array Oper} {rest : List Oper} {o : Oper} {a : Act} {Q : Exit → Act → World → Prop} (hgd : o.guard = none) (s x : Operand) (t : TypeId)
    (ho : o.op = .call { callee := .builtin .append, args := #[s, x], argTypes := #[t, t] })
    (base : Nat) (e : TypeId) (i : TypeInfo) (k : IntKind) (bytes : Nat) (hu : P.underlying t = some (.slice e)) (hi : P.info? e = some i) (hz : i.zero = some (.int k 0))
    (hsize : i.size = 1) (hby : i.bytes = bytes) (g c n : Nat) (ys : List Int) (hs : a.eval s = .slice (some ⟨g, 0, none⟩) n c) (hown : wr.ownsRow base e 1 (.slice (some ⟨g, 0, none⟩) n c) n (ys.map (Value.int k)))
    (xa : Option Addr) (m cap : Nat) (zs : List Int) (hx : a.eval x = .slice xa m cap) (hm : m = zs.length) (hr : Reads k wr xa zs)
    (N : Nat) (hN : n + m = N) (h63 : n + m ≤ maxLen) (hbytes : (n + m) * bytes ≤ 140737488355328) (hbase : base ≤ wr.heap.size)
    (h : ∀ av cv w', w'.ownsRow base e 1 (.slice av N cv) N ((ys ++ zs).map (Value.int k)) → Kept (fun b => b = g) wr w' → wpList P ops Q rest (a.put o.dst (.slice av N cv)) w') :
    wpList P ops Q (o :: rest) a wr := by
  subst hN
  cases xa with
  | some ad =>
    refine wpList_append_own _ hgd s x t ho base e i (.int k 0) 1 bytes hu hi hz hsize hby rfl (by decide) _ n _ hs hown ad m cap (zs.map (Value.int k)) hx (by simp [hm]) (fun j u hj => ?_) (ints_one _ _) h63 hbytes hbase ?_
    · have h0 : zs ≠ [] := fun e => by subst e; simp at hj
      obtain ⟨b, off, e1, hb, hc⟩ := hr h0
      simp only [Option.some.injEq] at e1
      subst e1
      exact reads_news hc j u hj
    · intro v' w' ho' hg _
      rw [← List.map_append] at ho'
      obtain ⟨av, cv, rfl⟩ := ownsRow_shape ho'
      exact h av cv w' ho' ⟨hg.os, hg.tape, hg.output, hg.size, fun q hq hn => hg.block q hq (fun e => hn (by simp [Value.ownBlock] at e; exact e))⟩
  | none =>
    have h0 : zs = [] := by
      by_cases h0 : zs = []
      · exact h0
      · obtain ⟨b, off, e1, _⟩ := hr h0; cases e1
    subst h0
    simp only [List.length_nil] at hm
    subst hm
    have hc : n ≤ c := ownsRow_cap hown
    have hrun : (Builtin.append_ #[t, t] o.type #[.slice (some ⟨g, 0, none⟩) n c, .slice none 0 cap]).run P wr = .ok (.slice (some ⟨g, 0, none⟩) (n + 0) c) wr := by
      simp [Builtin.append_, run_underlying hu, sizeOf, typeInfo, hi, Builtin.lenOf, Builtin.firstCells, storeCells, hc]
    refine wpList_plain hgd fun K hK => ?_
    unfold Oper.wp execOp
    simp only [ho, resolve, invoke, builtin, Sem.run_bind, Sem.run_pure, Result.andThen_ok, List.map_toArray, List.map_cons, List.map_nil, hs, hx, hrun]
    exact hK _ _ (h _ _ wr (by simpa using hown) (Kept.refl _ _))

/-- append(out, x) behind a walk that wrote the new block's number its own way. -/
theorem wpList_append_put {P : Program} {wr : World} {news : Array Value} {ops : Array Oper} {rest : List Oper} {o : Oper} {a : Act} {Q : Exit → Act → World → Prop} (hgd : o.guard = none) (s x : Operand) (t : TypeId)
    (ho : o.op = .call { callee := .builtin .append, args := #[s, x], argTypes := #[t, t] })
    (base : Nat) (e : TypeId) (i : TypeInfo) (z : Value) (size bytes : Nat) (ht : P.underlying t = some (.slice e)) (hi : P.info? e = some i) (hz : i.zero = some z)
    (hsize : i.size = size) (hby : i.bytes = bytes) (hzs : z.cells.size = size) (hsz : 0 < size)
    (v : Value) (n : Nat) (xs : List Value) (hs : a.eval s = v) (hown : wr.ownsRow base e size v n xs)
    (H : Nat) (hH : wr.heap.size = H) (hx : a.eval x = .slice (some ⟨H, 0, none⟩) 1 1) (hl : news.size = size) (h1 : ∀ u ∈ news.toList, u.oneCell' = true)
    (h63 : n + 1 ≤ maxLen) (hbytes : (n + 1) * bytes ≤ 140737488355328) (hbase : base ≤ wr.heap.size)
    (h : ∀ av cv w', w'.ownsRow base e size (.slice av (n + 1) cv) (n + 1) (xs ++ news.toList) → Kept (fun b => v.ownBlock = some b) wr w' → wpList P ops Q rest (a.put o.dst (.slice av (n + 1) cv)) w') :
    wpList P ops Q (o :: rest) a (wr.alloc (.cells news e)) := by
  subst hH
  refine wpList_append_one hgd s x t ho base e i z size bytes ht hi hz hsize hby hzs hsz v n xs hs hown hx hl h1 h63 hbytes hbase fun v' w' h2 h3 => ?_
  obtain ⟨av, cv, rfl⟩ := ownsRow_shape h2
  exact h av cv w' h2 h3

theorem row_addr {w : World} {B : Nat} {e : TypeId} {size n : Nat} {a : Option Addr} {c : Nat} {xs : List Value} (h : w.ownsRow B e size (.slice a n c) n xs) (hn : 0 < n ∨ ∃ g, (Value.slice a n c).ownBlock = some g) : ∃ g, a = some ⟨g, 0, none⟩ ∧ n ≤ c := by
  rcases h.2 with ⟨h', h0⟩ | ⟨g, cap, cur, h', _, _, hnc, _⟩
  · simp only [Value.slice.injEq] at h'
    rcases hn with hn | ⟨g, hg⟩
    · omega
    · rw [h'.1] at hg; simp [Value.ownBlock] at hg
  · simp only [Value.slice.injEq, true_and] at h'
    exact ⟨g, h'.1, by rw [h'.2]; exact hnc⟩
theorem GE.addr {B T : Nat} {w : World} {a : Option Addr} {n c : Nat} {es : List En} (h : GE B T w (.slice a n c) es) (hn : n = es.length) (ho : 0 < n ∨ ∃ g, (Value.slice a n c).ownBlock = some g) : ∃ g, a = some ⟨g, 0, none⟩ ∧ n ≤ c := by
  subst hn
  obtain ⟨rs, _, h1, _⟩ := h
  exact row_addr h1 ho
theorem GE.made (w : World) : GE w.heap.size (w.alloc (.cells #[] 39)).heap.size (w.alloc (.cells #[] 39)) (.slice (some ⟨w.heap.size, 0, none⟩) 0 0) [] :=
  ⟨[], rfl, World.ownsRow_made w #[] 0 (Nat.le_refl _) (Nat.zero_le _) rfl, fun r hr => by simp at hr, List.Pairwise.nil, fun r hr => by simp at hr, fun x hx => by simp [Value.ownBlock] at hx; subst hx; simp⟩
theorem GE.shape {B T : Nat} {w : World} {v : Value} {es : List En} (h : GE B T w v es) : ∃ a c, v = .slice a es.length c := h.se.shape
theorem take_len {α : Type} {es : List α} {k : Nat} (h : k ≤ es.length) : (es.take k).length = k := by rw [List.length_take]; omega

/-- What one round of the copy leaves. -/
theorem copy_step {wr w1 : World} {e : En} {x av : Option Addr} {cc cv : Nat} (hown : w1.ownsRow (wr.heap.size + 1) 2 1 (.slice av e.chunks.length cv) e.chunks.length (e.chunks.map (Value.int .i64)))
    (hk : Kept (fun b => b = wr.heap.size + 1) ((wr.alloc (.cells #[.string (str e.path), .int .i64 e.kind, .int .i64 e.size, .slice x e.chunks.length cc] 39)).alloc (.cells #[] 2)) w1) :
    (w1.cell? ⟨wr.heap.size, 0, none⟩ = some (.string (str e.path)) ∧ w1.cell? ⟨wr.heap.size, 1, none⟩ = some (.int .i64 e.kind) ∧ w1.cell? ⟨wr.heap.size, 2, none⟩ = some (.int .i64 e.size) ∧ w1.cell? ⟨wr.heap.size, 3, none⟩ = some (.slice x e.chunks.length cc) ∧ w1.frozen? ⟨wr.heap.size, 3, none⟩ = false) ∧
    Below wr.heap.size wr (w1.setCell ⟨wr.heap.size, 3, none⟩ (.slice av e.chunks.length cv)) ∧
    (w1.setCell ⟨wr.heap.size, 3, none⟩ (.slice av e.chunks.length cv)).ownsRow wr.heap.size 2 1 (.slice av e.chunks.length cv) e.chunks.length (e.chunks.map (Value.int .i64)) := by
  have hF := (Four.new wr (.string (str e.path)) (.int .i64 e.kind) (.int .i64 e.size) (.slice x e.chunks.length cc) 39).below (below_alloc _ (.cells #[] 2))
  have hfz : ((wr.alloc (.cells #[.string (str e.path), .int .i64 e.kind, .int .i64 e.size, .slice x e.chunks.length cc] 39)).alloc (.cells #[] 2)).frozen? ⟨wr.heap.size, 3, none⟩ = false := by
    rw [(below_alloc _ (.cells #[] 2)).frozen (p := ⟨wr.heap.size, 3, none⟩) (by simp)]
    simp
  have hBB : Below wr.heap.size wr ((wr.alloc (.cells #[.string (str e.path), .int .i64 e.kind, .int .i64 e.size, .slice x e.chunks.length cc] 39)).alloc (.cells #[] 2)) := below_next (below_alloc _ _) (below_alloc _ _)
  have hlt := hF.lt
  generalize (wr.alloc (.cells #[.string (str e.path), .int .i64 e.kind, .int .i64 e.size, .slice x e.chunks.length cc] 39)).alloc (.cells #[] 2) = W at *
  obtain ⟨f0, f1, f2, f3⟩ := hF
  have hne : ¬ (wr.heap.size = wr.heap.size + 1) := by omega
  refine ⟨⟨(hk.cell (p := ⟨wr.heap.size, 0, none⟩) hlt hne).trans f0, (hk.cell (p := ⟨wr.heap.size, 1, none⟩) hlt hne).trans f1, (hk.cell (p := ⟨wr.heap.size, 2, none⟩) hlt hne).trans f2, (hk.cell (p := ⟨wr.heap.size, 3, none⟩) hlt hne).trans f3, (hk.frozen (p := ⟨wr.heap.size, 3, none⟩) hlt hne).trans hfz⟩, ?_, ?_⟩
  · exact (hBB.trans (hk.below hBB.size (fun k hk h => by omega))).setCell (p := ⟨wr.heap.size, 3, none⟩) (Nat.le_refl _) _
  · refine ownsRow_mono (base := wr.heap.size + 1) ?_ (by omega)
    exact ownsRow_kept (S := fun b => b = wr.heap.size) hown (Kept.setCell (S := fun b => b = wr.heap.size) (p := ⟨wr.heap.size, 3, none⟩) (Kept.refl _ w1) (fun _ => rfl) _) (fun b hb hS => by have := (hown.lt b hb).1; omega)

set_option maxRecDepth 100000 in
set_option maxHeartbeats 3200000 in
theorem l4Copy_any (a : Option Addr) (c n : Nat) (es : List En) (w : World) (h : RdE w a es) (hn : n = es.length) (hl : es.length ≤ 1048576) (hs : SmallE es) :
    Calls Tryz.prog 76 #[.slice a n c] w fun r w' => ∃ g cv, r = .returned (.slice (some ⟨g, 0, none⟩) n cv) ∧ n ≤ cv ∧ GE w.heap.size w'.heap.size w' (.slice (some ⟨g, 0, none⟩) n cv) es ∧ Below w.heap.size w w' := by
  subst hn
  obtain ⟨i1, ki, kz0, kz1, kz2⟩ := info_parts Tryz.infoEn
  obtain ⟨i0, hi0, hz0, hz1, hz2⟩ := info_parts Tryz.infoI64
  have HA := hide h
  have HS := hide hs
  clear h hs
  go_enter Tryz.func76, Tryz.ntmps76
  go_wp2_with fail
  go_loopw [3, 4] (fun v i wr => ∃ j : Nat, j ≤ es.length ∧ i = .int .i64 j ∧ Hid (GE w.heap.size wr.heap.size wr v (es.take j)) ∧ Hid (∃ g, v.ownBlock = some g) ∧ Hid (Below w.heap.size w wr)) (fun _ i _ => es.length - (intOf i).toNat)
  case atStart => exact ⟨0, Nat.zero_le _, rfl, hide (GE.made w), hide ⟨_, rfl⟩, hide (below_alloc _ _)⟩
  case round =>
    obtain ⟨j, hj, rfl, HG, HOb, HW⟩ := hrel
    obtain ⟨lv, lc, hv⟩ := HG.out.shape
    rw [take_len hj] at hv
    subst hv
    have HA1 := hide (HA.out.below HW.out)
    have hsz := HW.out.size
    by_cases hlt : j < es.length
    · obtain ⟨b, off, e, x, cc, rfl, hb, he, c0, c1, c2, c3, hr⟩ := HA1.out.at hlt
      have HX := hide he
      have HRc := hide hr
      have hsm := HS.out e (List.mem_of_getElem? he)
      clear he hr
      obtain ⟨rs, g1, g2, g3, g4, g5, g6⟩ := HG.out
      have G1 := hide g1
      have G2 := hide g2
      have G3 := hide g3
      have G4 := hide g4
      clear g1 g2 g3 g4 g5 g6 HG
      have hj1 : (es.take j).length = j := take_len hj
      have OWN0 : Hid (((wr.alloc (.cells #[.string (str e.path), .int .i64 e.kind, .int .i64 e.size, .slice x e.chunks.length cc] 39)).alloc (.cells #[] 2)).ownsRow (wr.heap.size + 1) 2 1 (.slice (some ⟨wr.heap.size + 1, 0, none⟩) 0 0) 0 (([] : List Int).map (Value.int .i64))) := hide (by
        have := World.ownsRow_made (base := wr.heap.size + 1) (e := 2) (size := 1) (wr.alloc (.cells #[.string (str e.path), .int .i64 e.kind, .int .i64 e.size, .slice x e.chunks.length cc] 39)) #[] 0 (by simp) (Nat.zero_le _) rfl
        simpa using this)
      have RD0 : Hid (Reads .i64 ((wr.alloc (.cells #[.string (str e.path), .int .i64 e.kind, .int .i64 e.size, .slice x e.chunks.length cc] 39)).alloc (.cells #[] 2)) x e.chunks) := HRc.out.below (below_next (below_alloc _ _) (below_alloc _ _))
      have hm0 : 0 + e.chunks.length ≤ maxLen := by unfold maxLen; omega
      have hm0' : (0 + e.chunks.length) * 8 ≤ 140737488355328 := by omega
      have hm1 : j + 1 ≤ maxLen := by unfold maxLen; omega
      have hm1' : (j + 1) * 56 ≤ 140737488355328 := by omega
      have G2' : Hid (wr.ownsRow w.heap.size 39 4 (.slice lv j lc) j (rowR rs)) := by have := G2.out; rw [hj1] at this; exact this
      have HJ := hide hj1
      clear hj1
      go_wp2_with (first
        | (at_builtin; refine wpList_append_take rfl (.tmp 17) (.tmp 19) 37 rfl (wr.heap.size + 1) 2 i0 .i64 8 Tryz.underlying37 hi0 hz0 hz1 hz2 (wr.heap.size + 1) 0 0 [] rfl OWN0.out x e.chunks.length cc e.chunks rfl rfl RD0.out e.chunks.length (by simp) hm0 hm0' (by simp) ?_; intro av cv w1 hown1 hk1; obtain ⟨⟨f0, f1, f2, f3, f4⟩, hB1, hO1⟩ := copy_step hown1 hk1; have B1 := hide hB1; have O1 := hide hO1; have O2 := hide (ownsRow_below G2'.out hB1); have hs1 := hB1.size; have hH1 : (w1.setCell ⟨wr.heap.size, 3, none⟩ (.slice av e.chunks.length cv)).heap.size = w1.heap.size := (by simp [World.setCell]); clear hown1 hk1 hB1 hO1)
        | (at_builtin; refine wpList_append_put rfl (.tmp 22) (.tmp 24) 25 rfl w.heap.size 39 i1 (.agg #[.string ⟨#[]⟩, .int .i64 0, .int .i64 0, .slice none 0 0]) 4 56 Tryz.underlying25 ki kz0 kz1 kz2 rfl (by decide) _ _ _ rfl O2.out _ hH1 rfl rfl (by intro u hu; simp at hu; rcases hu with rfl | rfl | rfl | rfl <;> rfl) hm1 hm1' (by omega) ?_; intro av3 cv3 w3 hown2 hkept; have O3 := hide hown2; have K3 := hide hkept; clear hown2 hkept))
      go_roundw
      case rel =>
        refine ⟨j + 1, by omega, by go_num, hide ?_, hide ?_, hide ?_⟩
        · rw [take_snoc_at HX.out]
          exact GE.push G1.out G2.out G3.out G4.out hsz B1.out O1.out (by rw [HJ.out]; exact O3.out) K3.out
        · obtain ⟨g5, h5, _⟩ := row_addr O3.out (.inl (by omega))
          exact ⟨g5, by rw [h5]; rfl⟩
        · exact (below_next HW.out B1.out).trans (K3.out.below (by omega) (fun k hk hx => by have := (G2'.out.lt k hx).1; omega))
      case measure => simp [intOf]; omega
    · have hje : j = es.length := by omega
      have HE := hide (show es.take j = es from List.take_of_length_le (by omega))
      obtain ⟨g5, h5, h6⟩ := HG.out.addr (take_len hj).symm (.inr HOb.out)
      subst h5
      have HG2 : Hid (GE w.heap.size wr.heap.size wr (.slice (some ⟨g5, 0, none⟩) j lc) es) := by have := HG.out; rw [HE.out] at this; exact this
      clear HG HE
      subst hje
      go_wp2_with fail
      go_ret
      exact ⟨_, _, rfl, h6, HG2.out, HW.out⟩

end Go.Proofs.YtlbccbikepkfiaaGreatDoor

namespace Go.Proofs.YtlbccbikepkfiaaGreatDoor
open Go.RowKit Go.Maps
set_option linter.unusedVariables false
attribute [local go_sem ↓] Go.wp_at_zero Go.wp_at_succ

theorem RdE.one {w : World} {b off : Nat} {es : List En} {k : Nat} {e : En} (h : RdE w (some ⟨b, off, none⟩) es) (he : es[k]? = some e) : RdE w (some ⟨b, off + k * 4, none⟩) [e] := by
  intro _
  have hk := (List.getElem?_eq_some_iff.1 he).1
  obtain ⟨b', off', A, C, e1, hb, hc⟩ := h (by intro e; simp [e] at hk)
  simp only [Option.some.injEq, Addr.mk.injEq, and_true] at e1
  obtain ⟨rfl, rfl⟩ := e1
  refine ⟨b, off + k * 4, fun _ => A k, fun _ => C k, rfl, hb, fun i x hx => ?_⟩
  have hi : i = 0 := by
    have := (List.getElem?_eq_some_iff.1 hx).1
    simp at this
    exact this
  subst hi
  simp only [List.getElem?_cons_zero, Option.some.injEq] at hx
  subst hx
  simp only [Nat.zero_mul, Nat.add_zero]
  exact hc k e he

/-- A result: a code and a layer of its own. -/
def ResE (q : Int) (es : List En) (w : World) (r : Ending) (w' : World) : Prop :=
  ∃ av cv, r = .returned (.agg #[.int .i64 q, .slice av es.length cv]) ∧ GE w.heap.size w'.heap.size w' (.slice av es.length cv) es ∧ Below w.heap.size w w'
theorem ResE.of {q : Int} {es : List En} {w w2 w3 : World} {B b n : Nat} {av : Option Addr} {cv : Nat} {u v : Value} (hB : b < B) (hw : w.heap.size ≤ b) (hn : n = es.length) (hG : GE B w3.heap.size w3 (.slice av n cv) es) (hb : Below w.heap.size w w3) :
    ResE q es w (.returned (.agg #[.int .i64 q, .slice av n cv])) ((w3.setCell ⟨b, 0, none⟩ u).setCell ⟨b, 1, none⟩ v) := by
  subst hn
  refine ⟨av, cv, rfl, ?_, (hb.setCell hw _).setCell hw _⟩
  have hs : ((w3.setCell ⟨b, 0, none⟩ u).setCell ⟨b, 1, none⟩ v).heap.size = w3.heap.size := by simp [World.setCell]
  rw [hs]
  exact (hG.kept (Kept.two w3 b 0 1 u v) (fun x h1 _ h2 => by omega)).mono (by omega)
theorem ResE.bad {q : Int} {w w3 : World} {b : Nat} {u v : Value} (hw : w.heap.size ≤ b) (hb : Below w.heap.size w w3) :
    ResE q [] w (.returned (.agg #[.int .i64 q, .slice none 0 0])) ((w3.setCell ⟨b, 0, none⟩ u).setCell ⟨b, 1, none⟩ v) :=
  ⟨none, 0, rfl, GE.nil _ _ _, (hb.setCell hw _).setCell hw _⟩


/-- What EntryAt answers. -/
def findCode (es : List En) (p : Bs) : Int := if askE es p = 0 then (match atE es p with | some _ => 0 | none => 4) else askE es p
def findList (es : List En) (p : Bs) : List En := if askE es p = 0 then (match atE es p with | some k => (es[k]?).toList | none => []) else []

end Go.Proofs.YtlbccbikepkfiaaGreatDoor

namespace Go.Proofs.YtlbccbikepkfiaaGreatDoor
open Go.RowKit
set_option linter.unusedVariables false
set_option maxRecDepth 100000

/-- A row of one entry, just made. -/
theorem GE.solo {w w1 : World} {e : En} {av : Option Addr} {cv : Nat} (hs : w.heap.size ≤ w1.heap.size) (h : w1.ownsRow w.heap.size 2 1 (.slice av e.chunks.length cv) e.chunks.length (e.chunks.map (Value.int .i64))) :
    GE w.heap.size (w1.alloc (.cells #[.string (str e.path), .int .i64 e.kind, .int .i64 e.size, .slice av e.chunks.length cv] 39)).heap.size (w1.alloc (.cells #[.string (str e.path), .int .i64 e.kind, .int .i64 e.size, .slice av e.chunks.length cv] 39)) (.slice (some ⟨w1.heap.size, 0, none⟩) 1 1) [e] := by
  refine ⟨[⟨e, av, cv⟩], rfl, ?_, fun r hr => ?_, List.pairwise_singleton _ _, fun r hr g hg => ?_, fun b hb => ?_⟩
  · exact ⟨rfl, .inr ⟨w1.heap.size, 1, #[.string (str e.path), .int .i64 e.kind, .int .i64 e.size, .slice av e.chunks.length cv], rfl, hs, heap_alloc_new w1 _, Nat.le_refl _, by decide, rfl, rfl⟩⟩
  · simp only [List.mem_singleton] at hr
    subst hr
    exact ownsRow_below h (below_alloc _ _)
  · simp only [List.mem_singleton] at hr
    subst hr
    have := (h.lt g (block_own hg)).2
    simp
    omega
  · simp [Value.ownBlock] at hb
    subst hb
    simp

def parCode (l : Bs) : Int := match parE l with | some _ => 0 | none => 5
def parList (l : Bs) : List En := match parE l with | some e => [e] | none => []
theorem parE_so {l : Bs} {e : En} (h : parE l = some e) : parCode l = 0 ∧ parList l = [e] := by simp [parCode, parList, h]
theorem parE_no {l : Bs} (h : parE l = none) : parCode l = 5 ∧ parList l = [] := by simp [parCode, parList, h]

/-- What readEntry answers. -/
def ResR (o : Option En) (u : TypeId) (vp : Value) (w : World) (r : Ending) (w' : World) : Prop :=
  match o with
  | none => r = Dies u vp ∧ Below w.heap.size w w'
  | some e => (∃ av cv, r = .returned (.agg #[.string (str e.path), .int .i64 e.kind, .int .i64 e.size, .slice av e.chunks.length cv]) ∧ w'.ownsRow w.heap.size 2 1 (.slice av e.chunks.length cv) e.chunks.length (e.chunks.map (Value.int .i64))) ∧ Below w.heap.size w w'
theorem readEntry_any (l : Bs) (u : TypeId) (vp : Value) (w : World) (hl : l.length ≤ 2097152) (hg : Gl w u vp) : Calls Tryz.prog 37 #[.string (str l)] w (ResR (readE l) u vp w) := by
  obtain ⟨a, r, hc⟩ := cutC_head (m := 32) l
  cases hk : kindW a with
  | none =>
    have hr : readE l = none := by unfold readE; rw [hc]; cases r <;> simp [hk]
    rw [hr]
    exact readEntry_a l a r hc hk u vp w hl hg
  | some K =>
    match r, hc with
    | [], hc =>
      have hr : readE l = none := by unfold readE; rw [hc]
      rw [hr]
      exact readEntry_b l a K hc hk u vp w hl hg
    | p :: rest, hc =>
      by_cases h1 : K = 1
      · subst h1
        match rest, hc with
        | [], hc =>
          have hr : readE l = none := by unfold readE; rw [hc]; simp [hk]
          rw [hr]
          exact readEntry_d l a p hc hk u vp w hl hg
        | n :: r', hc =>
          cases hv : numW n with
          | none =>
            have hr : readE l = none := by unfold readE; rw [hc]; simp [hk, hv]
            rw [hr]
            exact readEntry_e l a p n r' hc hk hv u vp w hl hg
          | some V =>
            have hr : readE l = (restW r').map fun cs => ⟨p, 1, V, cs⟩ := by unfold readE; rw [hc]; simp [hk, hv]
            by_cases h45 : joinC 32 r' = [45]
            · have hw : restW r' = some [] := by unfold restW; rw [if_pos h45]
              rw [hr, hw]
              refine (readEntry_f l a p n r' V hc hk hv h45 u vp w hl hg).mono ?_
              rintro e w' ⟨rfl, hb⟩
              exact ⟨⟨none, 0, rfl, World.ownsRow_nil _ _ _ _⟩, hb⟩
            · by_cases hne : r' = []
              · subst hne
                have hw : restW [] = none := by unfold restW; rw [if_neg h45, if_pos rfl]
                rw [hr, hw]
                exact readEntry_g l a p n V hc hk hv u vp w hl hg
              · have hw : restW r' = (cutC 44 (joinC 32 r')).mapM hexW := by unfold restW; rw [if_neg h45, if_neg hne]
                rw [hr, hw]
                refine (readEntry_h l a p n r' _ V hc hk hv h45 hne rfl u vp w hl hg).mono ?_
                rintro e w' ⟨he, hb⟩
                cases hm : (cutC 44 (joinC 32 r')).mapM hexW with
                | none => rw [hm] at he; exact ⟨he, hb⟩
                | some ds => rw [hm] at he; exact ⟨he, hb⟩
      · have hr : readE l = some ⟨p, K, 0, []⟩ := by unfold readE; rw [hc]; simp [hk, h1]
        rw [hr]
        refine (readEntry_c l a p K rest hc hk h1 u vp w hl hg).mono ?_
        rintro e w' ⟨rfl, hb⟩
        exact ⟨⟨none, 0, rfl, World.ownsRow_nil _ _ _ _⟩, hb⟩
theorem mapM_len : ∀ {ws : List Bs} {ds : List Int}, ws.mapM hexW = some ds → ds.length = ws.length
  | [], ds, h => by simp at h; subst h; rfl
  | x :: ws, ds, h => by
    rw [List.mapM_cons] at h
    cases hx : hexW x with
    | none => rw [hx] at h; simp at h
    | some d =>
      cases hm : ws.mapM hexW with
      | none => rw [hx, hm] at h; simp at h
      | some ds' =>
        rw [hx, hm] at h
        simp at h
        subst h
        simp [mapM_len hm]
theorem readE_len {l : Bs} {e : En} (h : readE l = some e) : e.path.length ≤ l.length ∧ e.chunks.length ≤ l.length := by
  have hp := cutC_each (m := 32) l
  obtain ⟨a, r, hc⟩ := cutC_head (m := 32) l
  cases hk : kindW a with
  | none =>
    have hr : readE l = none := by unfold readE; rw [hc]; cases r <;> simp [hk]
    rw [hr] at h; cases h
  | some K =>
    match r, hc with
    | [], hc =>
      have hr : readE l = none := by unfold readE; rw [hc]
      rw [hr] at h; cases h
    | p :: rest, hc =>
      have hpl := hp p (by rw [hc]; simp)
      by_cases h1 : K = 1
      · subst h1
        match rest, hc with
        | [], hc =>
          have hr : readE l = none := by unfold readE; rw [hc]; simp [hk]
          rw [hr] at h; cases h
        | n :: r', hc =>
          cases hv : numW n with
          | none =>
            have hr : readE l = none := by unfold readE; rw [hc]; simp [hk, hv]
            rw [hr] at h; cases h
          | some V =>
            have hr : readE l = (restW r').map fun cs => ⟨p, 1, V, cs⟩ := by unfold readE; rw [hc]; simp [hk, hv]
            rw [hr] at h
            obtain ⟨cs, hcs, rfl⟩ := Option.map_eq_some_iff.1 h
            refine ⟨hpl, ?_⟩
            show cs.length ≤ l.length
            unfold restW at hcs
            split at hcs
            · cases hcs; simp
            · split at hcs
              · cases hcs
              · rename_i hne
                obtain ⟨e1, -, e2⟩ := cut_more hc (by simp)
                obtain ⟨e3, -, e4⟩ := cut_more e2 (by simp)
                obtain ⟨e5, -, -⟩ := cut_more e4 hne
                have l1 := congrArg List.length e1
                have l2 := congrArg List.length e3
                have l3 := congrArg List.length e5
                have l4 := cutC_length (m := 44) (joinC 32 r')
                have l5 := mapM_len hcs
                simp only [List.length_append, List.length_cons] at l1 l2 l3
                omega
      · have hr : readE l = some ⟨p, K, 0, []⟩ := by unfold readE; rw [hc]; simp [hk, h1]
        rw [hr] at h
        cases h
        exact ⟨hpl, by simp⟩

theorem catchE_panicking (b : Nat) (u0 u1 : Value) (u : TypeId) (vp : Value) (older : List PanicEntry) (w : World) (hx : Box w b u0 u1) :
    CallsD Tryz.prog 36 #[.pointer (some ⟨b, 0, none⟩)] (.panicking ({ v := .iface u vp, recovered := false } :: older)) w fun e u' w' =>
      e = .returned (.tuple #[]) ∧ u' = .panicking ({ v := .iface u vp, recovered := true } :: older) ∧ w' = (w.setCell ⟨b, 0, none⟩ (.int .i64 5)).setCell ⟨b, 1, none⟩ (.slice none 0 0) := by
  obtain ⟨⟨t0, t1⟩, z0, z1⟩ := hx
  refine callsD_of_wpS Tryz.func36 rfl fun c₀ cs hu => ?_
  apply wpS_seq
  apply wpS_region
  simp [wpOpsS, go_sem, recoverD, hu, Tryz.ntmps36, Exit.thenS]
  refine wpS_cond (t := true) (by simp [Act.eval, Array.replicate]) ?_
  simp only [if_true]
  apply wpS_region
  simp [wpOpsS, go_sem, t0, t1, z0, z1, bodyPostS, results, Tryz.results36]
theorem catchE_idle (p : Addr) (w : World) :
    CallsD Tryz.prog 36 #[.pointer (some p)] .returning w fun e u' w' => e = .returned (.tuple #[]) ∧ u' = .returning ∧ w' = w := by
  refine callsD_of_wpS Tryz.func36 rfl fun c₀ cs hu => ?_
  apply wpS_seq
  apply wpS_region
  simp [wpOpsS, go_sem, recoverD, hu, Tryz.ntmps36, Exit.thenS]
  refine wpS_cond (t := false) (by simp [Act.eval, Array.replicate]) ?_
  simp only [Bool.false_eq_true, if_false]
  refine wpS_of_wp (wp_skip ?_)
  cases c₀
  simp_all [bodyPostS, results, Tryz.results36]

set_option maxHeartbeats 3200000 in
theorem implParseEntry_unread (l : Bs) (u : TypeId) (vp : Value) (w : World) (hl : l.length ≤ 1048576) (hg : Gl w u vp) (hr : readE l = none) :
    Calls Tryz.prog 14 #[.string (str l)] w (ResE 5 [] w) := by
  have hmf : ∀ (fn : Fn) (first cap : Array Value) (w : World), (Instr.makeFunc fn first cap).run Tryz.prog w = .ok (.func fn first cap) w := fun _ _ _ _ => rfl
  have HH : Hid (∀ w1, Gl w1 u vp → Calls Tryz.prog 37 #[.string (str l)] w1 fun r w' => r = Dies u vp ∧ Below w1.heap.size w1 w') := hide (fun w1 h1 => by have := readEntry_any l u vp w1 (by omega) h1; rw [hr] at this; exact this)
  have X0 := hide (Box.new w (.int .i64 0) (.slice none 0 0) 27)
  have B0 := hide (below_alloc w (.cells #[.int .i64 0, .slice none 0 0] 27))
  have HG := hide (hg.below B0.out)
  clear hr hg
  go_enter_defers Tryz.func14, Tryz.ntmps14
  go_wp2_with fail
  refine (HH.out _ HG.out).mono ?_
  rintro r w1 ⟨rfl, b1⟩
  have X1 := X0.out.below b1
  have B1 := hide (below_next B0.out b1)
  clear b1
  go_wp2_with fail
  refine leaves_cons (f := 36) (args := #[.pointer (some ⟨w.heap.size, 0, none⟩)]) (by simp) (by simp [go_sem]) ?_
  refine (catchE_panicking w.heap.size _ _ u vp [] _ X1).mono ?_
  rintro e u' w'' ⟨rfl, rfl, rfl⟩
  obtain ⟨⟨t0, t1⟩, z0, z1⟩ := X1
  have hb := hide (ResE.bad (q := 5) (u := .int .i64 5) (v := .slice none 0 0) (Nat.le_refl _) B1.out)
  simp [Leaves, settle, results, Tryz.results14, go_sem, t0, t1]
  exact hb.out
set_option maxHeartbeats 3200000 in
theorem implParseEntry_not (l : Bs) (x : En) (u : TypeId) (vp : Value) (w : World) (hl : l.length ≤ 1048576) (hg : Gl w u vp) (hr : readE l = some x) (hne : entFault x ≠ 0 ∨ entText x ≠ l) :
    Calls Tryz.prog 14 #[.string (str l)] w (ResE 5 [] w) := by
  have hmf : ∀ (fn : Fn) (first cap : Array Value) (w : World), (Instr.makeFunc fn first cap).run Tryz.prog w = .ok (.func fn first cap) w := fun _ _ _ _ => rfl
  have HH : Hid (∀ w1, Gl w1 u vp → Calls Tryz.prog 37 #[.string (str l)] w1 fun r w' => (∃ av cv, r = .returned (.agg #[.string (str x.path), .int .i64 x.kind, .int .i64 x.size, .slice av x.chunks.length cv]) ∧ w'.ownsRow w1.heap.size 2 1 (.slice av x.chunks.length cv) x.chunks.length (x.chunks.map (Value.int .i64))) ∧ Below w1.heap.size w1 w') := hide (fun w1 h1 => by have := readEntry_any l u vp w1 (by omega) h1; rw [hr] at this; exact this)
  have HLN := hide (readE_len hr)
  have X0 := hide (Box.new w (.int .i64 0) (.slice none 0 0) 27)
  have B0 := hide (below_alloc w (.cells #[.int .i64 0, .slice none 0 0] 27))
  have HGB : Hid (∀ w' : World, Below w.heap.size w w' → Gl w' u vp) := hide (fun w' hb => hg.below hb)
  have HNE := hide hne
  clear hr hg hne
  obtain ⟨xp, xk, xs, xc⟩ := x
  go_enter_defers Tryz.func14, Tryz.ntmps14
  go_wp2_with fail
  refine (HH.out _ (HGB.out _ B0.out)).mono ?_
  rintro r w1 ⟨⟨av, cv, rfl, hO⟩, b1⟩
  have A1 := hide (below_next b1 (below_alloc w1 (.cells #[.string (str xp), .int .i64 xk, .int .i64 xs, .slice av xc.length cv] 39)))
  have M1 := hide (Four.new w1 (.string (str xp)) (.int .i64 xk) (.int .i64 xs) (.slice av xc.length cv) 39)
  have R1 := hide ((ownInts_reads hO rfl).below (below_alloc w1 (.cells #[.string (str xp), .int .i64 xk, .int .i64 xs, .slice av xc.length cv] 39)))
  have X1 := hide (X0.out.below A1.out)
  have B1 := hide (below_next B0.out A1.out)
  clear b1 hO X0 B0 A1
  go_wp2_with fail
  generalize w1.alloc (.cells #[.string (str xp), .int .i64 xk, .int .i64 xs, .slice av xc.length cv] 39) = W1 at *
  generalize w1.heap.size = b1 at *
  obtain ⟨m0, m1, m2, m3⟩ := M1.out
  go_wp2_with fail
  refine (implEntryText_any ⟨xp, xk, xs, xc⟩ av cv W1 R1.out (Nat.le_trans HLN.out.1 hl) (Nat.le_trans HLN.out.2 hl)).mono ?_
  rintro r w2 ⟨rfl, b2⟩
  have X2 := hide (X1.out.below b2)
  have B2 := hide (below_next B1.out b2)
  clear b2 X1 M1 R1 B1 m0 m1 m2 m3
  go_wp2_with fail
  refine (mustTell_no _ _ l u vp w2 HNE.out (fun w' hb => (HGB.out _ (below_next B2.out hb)).un)).mono ?_
  rintro r w3 ⟨rfl, b3⟩
  have X3 := X2.out.below b3
  have B3 := hide (below_next B2.out b3)
  clear b3
  go_wp2_with fail
  refine leaves_cons (f := 36) (args := #[.pointer (some ⟨w.heap.size, 0, none⟩)]) (by simp) (by simp [go_sem]) ?_
  refine (catchE_panicking w.heap.size _ _ u vp [] _ X3).mono ?_
  rintro e u' w'' ⟨rfl, rfl, rfl⟩
  obtain ⟨⟨t0, t1⟩, z0, z1⟩ := X3
  have hb := hide (ResE.bad (q := 5) (u := .int .i64 5) (v := .slice none 0 0) (Nat.le_refl _) B3.out)
  simp [Leaves, settle, results, Tryz.results14, go_sem, t0, t1]
  exact hb.out
set_option maxHeartbeats 3200000 in
theorem implParseEntry_yes (l : Bs) (x : En) (u : TypeId) (vp : Value) (w : World) (hl : l.length ≤ 1048576) (hg : Gl w u vp) (hr : readE l = some x) (hf : entFault x = 0) (ht : entText x = l) :
    Calls Tryz.prog 14 #[.string (str l)] w (ResE 0 [x] w) := by
  have hmf : ∀ (fn : Fn) (first cap : Array Value) (w : World), (Instr.makeFunc fn first cap).run Tryz.prog w = .ok (.func fn first cap) w := fun _ _ _ _ => rfl
  have HH : Hid (∀ w1, Gl w1 u vp → Calls Tryz.prog 37 #[.string (str l)] w1 fun r w' => (∃ av cv, r = .returned (.agg #[.string (str x.path), .int .i64 x.kind, .int .i64 x.size, .slice av x.chunks.length cv]) ∧ w'.ownsRow w1.heap.size 2 1 (.slice av x.chunks.length cv) x.chunks.length (x.chunks.map (Value.int .i64))) ∧ Below w1.heap.size w1 w') := hide (fun w1 h1 => by have := readEntry_any l u vp w1 (by omega) h1; rw [hr] at this; exact this)
  have HLN := hide (readE_len hr)
  have X0 := hide (Box.new w (.int .i64 0) (.slice none 0 0) 27)
  have B0 := hide (below_alloc w (.cells #[.int .i64 0, .slice none 0 0] 27))
  have hz0 : (w.alloc (.cells #[.int .i64 0, .slice none 0 0] 27)).heap.size = w.heap.size + 1 := by simp
  have HGB : Hid (∀ w' : World, Below w.heap.size w w' → Gl w' u vp) := hide (fun w' hb => hg.below hb)
  have HF := hide hf
  have HT := hide ht
  clear hr hg hf ht
  obtain ⟨xp, xk, xs, xc⟩ := x
  have HZ0 := hide hz0
  clear hz0
  go_enter_defers Tryz.func14, Tryz.ntmps14
  go_wp2_with fail
  refine (HH.out _ (HGB.out _ B0.out)).mono ?_
  rintro r w1 ⟨⟨av, cv, rfl, hO⟩, b1⟩
  rw [HZ0.out] at hO
  have A1 := hide (below_next b1 (below_alloc w1 (.cells #[.string (str xp), .int .i64 xk, .int .i64 xs, .slice av xc.length cv] 39)))
  have M1 := hide (Four.new w1 (.string (str xp)) (.int .i64 xk) (.int .i64 xs) (.slice av xc.length cv) 39)
  have O1 := hide (ownsRow_below hO (below_alloc w1 (.cells #[.string (str xp), .int .i64 xk, .int .i64 xs, .slice av xc.length cv] 39)))
  have X1 := hide (X0.out.below A1.out)
  have B1 := hide (below_next B0.out A1.out)
  clear b1 hO X0 B0 A1 HZ0
  go_wp2_with fail
  generalize w1.alloc (.cells #[.string (str xp), .int .i64 xk, .int .i64 xs, .slice av xc.length cv] 39) = W1 at *
  generalize w1.heap.size = b1 at *
  obtain ⟨m0, m1, m2, m3⟩ := M1.out
  go_wp2_with fail
  refine (implEntryText_any ⟨xp, xk, xs, xc⟩ av cv W1 (ownInts_reads O1.out rfl) (Nat.le_trans HLN.out.1 hl) (Nat.le_trans HLN.out.2 hl)).mono ?_
  rintro r w2 ⟨rfl, b2⟩
  have X2 := hide (X1.out.below b2)
  have M2 := hide (M1.out.below b2)
  have O2 := hide (ownsRow_below O1.out b2)
  have B2 := hide (below_next B1.out b2)
  clear b2 X1 M1 O1 B1 m0 m1 m2 m3
  rw [HF.out, HT.out]
  go_wp2_with fail
  refine (mustTell_yes l w2).mono ?_
  rintro r w3 ⟨rfl, b3⟩
  obtain ⟨m0, m1, m2, m3⟩ := M2.out.below b3
  have X3 := X2.out.below b3
  have O3 := hide (ownsRow_below O2.out b3)
  have B3 := hide (below_next B2.out b3)
  have hlt := X3.1.lt
  clear b3 X2 M2 O2 B2
  have GG := hide (GE.solo (w := w.alloc (.cells #[.int .i64 0, .slice none 0 0] 27)) (w1 := w3) (e := ⟨xp, xk, xs, xc⟩) (av := av) (cv := cv) (by simp; omega) (by simp; exact O3.out))
  obtain ⟨⟨t0, t1⟩, z0, z1⟩ := X3.below (below_alloc w3 (.cells #[.string (str xp), .int .i64 xk, .int .i64 xs, .slice av xc.length cv] 39))
  have B4 := hide (below_next B3.out (below_alloc w3 (.cells #[.string (str xp), .int .i64 xk, .int .i64 xs, .slice av xc.length cv] 39)))
  have hb := hide (ResE.of (q := 0) (w2 := w) (b := w.heap.size) (u := .int .i64 0) (v := .slice (some ⟨w3.heap.size, 0, none⟩) 1 1) (by simp) (Nat.le_refl _) rfl GG.out B4.out)
  clear GG B4 B3 O3 X3 hlt
  go_wp2_with fail
  refine leaves_cons (f := 36) (args := #[.pointer (some ⟨w.heap.size, 0, none⟩)]) (by simp) (by simp [go_sem]) ?_
  refine (catchE_idle ⟨w.heap.size, 0, none⟩ _).mono ?_
  rintro e u' w'' ⟨rfl, rfl, rfl⟩
  simp [Leaves, settle, results, Tryz.results14, go_sem, t0, t1]
  exact hb.out
theorem implParseEntry_any (l : Bs) (u : TypeId) (vp : Value) (w : World) (hl : l.length ≤ 1048576) (hg : Gl w u vp) :
    Calls Tryz.prog 14 #[.string (str l)] w (ResE (parCode l) (parList l) w) := by
  cases hr : readE l with
  | none =>
    obtain ⟨e1, e2⟩ := parE_no (parE_unread hr)
    rw [e1, e2]
    exact implParseEntry_unread l u vp w hl hg hr
  | some x =>
    by_cases hf : entFault x = 0
    · by_cases ht : textE x = l
      · obtain ⟨e1, e2⟩ := parE_so (parE_yes hr hf ht)
        rw [e1, e2]
        exact implParseEntry_yes l x u vp w hl hg hr hf (by rw [entText_good hf]; exact ht)
      · obtain ⟨e1, e2⟩ := parE_no (parE_not hr (.inr ht))
        rw [e1, e2]
        exact implParseEntry_not l x u vp w hl hg hr (.inr (by rw [entText_good hf]; exact ht))
    · obtain ⟨e1, e2⟩ := parE_no (parE_not hr (.inl hf))
      rw [e1, e2]
      exact implParseEntry_not l x u vp w hl hg hr (.inl hf)
end Go.Proofs.YtlbccbikepkfiaaGreatDoor

namespace Go.Proofs.YtlbccbikepkfiaaGreatDoor
set_option linter.unusedVariables false

/-- Is a path's parent among the entries, as a directory? -/
def hasDir (es : List En) (q : Bs) : Bool := es.any fun x => decide (x.path = q) && dirK x.kind
def homeP (es : List En) (p : Bs) : Bool := if parentP p = [] then true else hasDir es (parentP p)
def entBadH (home : Bs → Bool) (prev : Option En) (e : En) : Int := if entFault e = 0 then (if lowE prev e then 1 else if home e.path then 0 else 9) else entFault e
def layFromH (home : Bs → Bool) : Option En → List En → Int
  | _, [] => 0
  | prev, e :: r => if entBadH home prev e = 0 then layFromH home (some e) r else entBadH home prev e
/-- What the program's LayerFault answers. -/
def layFaultP (es : List En) : Int := if 12 < es.length then 2 else layFromH (homeP es) none es
theorem layFrom_H (es : List En) : ∀ (l : List En) (prev : Option En), layFrom es prev l = layFromH (homeE es) prev l
  | [], _ => rfl
  | e :: r, prev => by
    simp only [layFrom, layFromH]
    have : entBad es prev e = entBadH (homeE es) prev e := rfl
    rw [this, layFrom_H es r (some e)]
theorem layFaultP_many {es : List En} (h : 12 < es.length) : layFaultP es = 2 := by simp [layFaultP, h]
theorem layFaultP_few {es : List En} (h : ¬ 12 < es.length) : layFaultP es = layFromH (homeP es) (prevE es 0) (es.drop 0) := by simp [layFaultP, h, prevE]
theorem layFromH_step {es : List En} {H : Bs → Bool} {i : Nat} {e : En} (h : es[i]? = some e) : layFromH H (prevE es i) (es.drop i) = if entBadH H (prevE es i) e = 0 then layFromH H (prevE es (i + 1)) (es.drop (i + 1)) else entBadH H (prevE es i) e := by
  obtain ⟨hi, he⟩ := List.getElem?_eq_some_iff.1 h
  have e1 : prevE es (i + 1) = some e := by simp [prevE, h]
  rw [e1, List.drop_eq_getElem_cons hi, he]
  rfl
theorem layH_bad {es : List En} {H : Bs → Bool} {k : Nat} {e : En} {F : Int} (hF : F = layFromH H (prevE es k) (es.drop k)) (he : es[k]? = some e) (h : entFault e ≠ 0) : F = entFault e := by
  have hb : entBadH H (prevE es k) e = entFault e := by simp [entBadH, h]
  rw [hF, layFromH_step he, hb, if_neg h]
theorem layH_low {es : List En} {H : Bs → Bool} {k : Nat} {e : En} {F : Int} (hF : F = layFromH H (prevE es k) (es.drop k)) (he : es[k]? = some e) (h : entFault e = 0) (hl : lowE (prevE es k) e = true) : F = 1 := by
  have hb : entBadH H (prevE es k) e = 1 := by simp [entBadH, h, hl]
  rw [hF, layFromH_step he, hb]; rfl
theorem layH_home {es : List En} {H : Bs → Bool} {k : Nat} {e : En} {F : Int} (hF : F = layFromH H (prevE es k) (es.drop k)) (he : es[k]? = some e) (h : entFault e = 0) (hl : lowE (prevE es k) e = false) (hh : H e.path = false) : F = 9 := by
  have hb : entBadH H (prevE es k) e = 9 := by simp [entBadH, h, hl, hh]
  rw [hF, layFromH_step he, hb]; rfl
theorem layH_next {es : List En} {H : Bs → Bool} {k : Nat} {e : En} {F : Int} (hF : F = layFromH H (prevE es k) (es.drop k)) (he : es[k]? = some e) (h : entFault e = 0) (hl : lowE (prevE es k) e = false) (hh : H e.path = true) : F = layFromH H (prevE es (k + 1)) (es.drop (k + 1)) := by
  have hb : entBadH H (prevE es k) e = 0 := by simp [entBadH, h, hl, hh]
  rw [hF, layFromH_step he, hb]; rfl
theorem layH_end {es : List En} {H : Bs → Bool} {k : Nat} {F : Int} (hF : F = layFromH H (prevE es k) (es.drop k)) (hk : es.length ≤ k) : F = 0 := by
  rw [hF, List.drop_eq_nil_of_le hk]; cases prevE es k <;> rfl
theorem joinB_ne {ns : List Bs} (h : ns ≠ []) : joinB ns ≠ [] := by
  cases ns with
  | nil => exact absurd rfl h
  | cons a l => simp [joinB]
theorem parentP_nil {p : Bs} : parentP p = [] ↔ aboveN (cutB p.tail) = [] := by
  constructor
  · intro h
    cases hc : aboveN (cutB p.tail) with
    | nil => rfl
    | cons a l =>
      exfalso
      have hm : parentP p ∈ aboveN (cutB p.tail) := by
        unfold parentP
        rw [List.getLastD_eq_getLast?, List.getLast?_eq_some_getLast (by rw [hc]; simp)]
        exact List.getLast_mem _
      rw [h] at hm
      obtain ⟨k, h0, hk, e⟩ := mem_aboveN.1 hm
      exact joinB_ne (by intro e; have := congrArg List.length e; rw [List.length_take, List.length_nil] at this; omega) e.symm
  · intro h
    simp [parentP, h]

end Go.Proofs.YtlbccbikepkfiaaGreatDoor

namespace Go.Proofs.YtlbccbikepkfiaaGreatDoor
open Go.RowKit Go.Shelf
set_option linter.unusedVariables false
attribute [local go_sem] Oper.semAt_some

theorem join_len'' : ∀ (ns : List Bs) (m : Nat), (∀ n ∈ ns, n.length ≤ m) → (joinB ns).length ≤ (m + 1) * ns.length
  | [], _, _ => by simp [joinB]
  | n :: ns, m, h => by
    have := join_len'' ns m (fun x hx => h x (by simp [hx]))
    have := h n (by simp)
    simp only [joinB, List.length_cons, List.length_append, Nat.mul_add, Nat.mul_one]; omega
/-- append(out, x) inside a fence: x laid in a block of its own, out owned. -/
theorem wpListIn_append_one {F : Fence} {m : Nat} {P : Program} {wr : World} {news : Array Value} {ops : Array Oper} {rest : List Oper} {o : Oper} {a : Act} {Q : Exit → Act → World → Prop} (hgd : o.guard = none) (s x : Operand) (t : TypeId)
    (ho : o.op = .call { callee := .builtin .append, args := #[s, x], argTypes := #[t, t] })
    (base : Nat) (e : TypeId) (i : TypeInfo) (z : Value) (size bytes : Nat) (ht : P.underlying t = some (.slice e)) (hi : P.info? e = some i) (hz : i.zero = some z)
    (hsize : i.size = size) (hby : i.bytes = bytes) (hzs : z.cells.size = size) (hsz : 0 < size)
    (v : Value) (n : Nat) (xs : List Value) (hs : a.eval s = v) (hown : wr.ownsRow base e size v n xs)
    (hx : a.eval x = .slice (some ⟨wr.heap.size, 0, none⟩) 1 1) (hl : news.size = size) (h1 : ∀ u ∈ news.toList, u.oneCell' = true)
    (h63 : n + 1 ≤ maxLen) (hbytes : (n + 1) * bytes ≤ 140737488355328) (hbase : base ≤ wr.heap.size)
    (h : ∀ v' w', w'.ownsRow base e size v' (n + 1) (xs ++ news.toList) → Kept (fun b => v.ownBlock = some b) wr w' → KeepsOthers wr w' → wpListIn F m P ops Q rest (a.put o.dst v') w') :
    wpListIn F m P ops Q (o :: rest) a (wr.alloc (.cells news e)) := by
  refine wpListIn_append_own _ hgd s x t ho base e i z size bytes ht hi hz hsize hby hzs hsz v n xs hs (hown.alloc _) ⟨wr.heap.size, 0, none⟩ 1 1 news.toList hx (by simp [hl]) ?_ h1 h63 hbytes (by simp; omega) ?_
  · intro j u hj
    have hadd : (⟨wr.heap.size, 0, none⟩ : Addr).add j = ⟨wr.heap.size, j, none⟩ := by unfold Addr.add; split <;> simp_all
    rw [hadd, cell_of_row _ wr.heap.size j news e (0, 0) (heap_alloc_new wr _)]
    simpa using hj
  · intro v' w' ho' hg _
    refine h v' w' ho' ⟨hg.os, hg.tape, hg.output, Nat.le_trans (by simp) hg.size, fun k hk hn => ?_⟩ ?_
    · rw [hg.block k (by simp; omega) (fun e => hn e.symm)]
      exact Below.heap_alloc _ _ _ hk
    · refine (KeepsOthers.alloc wr _).trans (KeepsOthers.of_grownBy hg fun j o ej hj => ?_)
      rcases (hown.alloc (.cells news e)).2 with ⟨rfl, _⟩ | ⟨g, cap, cur, rfl, _, hgb, _⟩
      · simp [Value.ownBlock] at ej
      · obtain rfl : g = j := by simpa [Value.ownBlock] using ej
        rw [hgb] at hj; cases hj; rfl

theorem boxed_kept {S : Nat → Prop} {W W' : World} {B : Nat} {t : TypeId} {v : Value} (h : Boxed W B t v) (hk : Kept S W W') (hn : ¬ S B) : Boxed W' B t v := (hk.block B h.lt hn).trans h
/-- A list in a box, its row beyond R: what is no cells may turn. -/
theorem ownS_own {β : Type} (R : Nat) (B : Nat) (t : TypeId) (f : β → List Bs) : Go.Own (fun s W => ∃ v, Boxed W B t v ∧ OwnS R W v (f s)) := by
  have := holdsRow_own (β := β) R B t 9 1 (fun s => (f s).length) (fun s => (f s).map vS) (fun _ _ => True)
  intro s W W' row hs hg hr
  obtain ⟨v, hv, hrow⟩ := hs
  obtain ⟨v', hv', hrow', _⟩ := this s W W' row ⟨v, hv, hrow, trivial⟩ hg hr
  exact ⟨v', hv', hrow'⟩

theorem aboveN_snoc (ps : List Bs) (x : Bs) (h : ps ≠ []) : aboveN (ps ++ [x]) = aboveN ps ++ [joinB ps] := by
  have hp := List.length_pos_iff.2 h
  obtain ⟨k, hk⟩ : ∃ k, ps.length = k + 1 := ⟨ps.length - 1, by omega⟩
  unfold aboveN
  have e1 : (ps ++ [x]).length - 1 = k + 1 := by simp; omega
  have e2 : ps.length - 1 = k := by omega
  rw [e1, e2, List.range_succ, List.map_append]
  congr 1
  · apply List.map_congr_left
    intro j hj
    have : j < k := by simpa using hj
    rw [List.take_append_of_le_length (by omega)]
  · simp [List.take_append_of_le_length (show k + 1 ≤ ps.length by omega), List.take_of_length_le (show ps.length ≤ k + 1 by omega)]
theorem aboveN_one (x : Bs) : aboveN [x] = [] := rfl
theorem join_snoc (ps : List Bs) (x : Bs) : str (joinB ps) ++ ((⟨#[47]⟩ : ByteArray) ++ str x) = str (joinB (ps ++ [x])) := by
  have e : (⟨#[47]⟩ : ByteArray) = str [47] := rfl
  rw [e, str_append, str_append, join_append]
  simp [joinB]
theorem join_len_pcs (ps : List Pc) : (joinB (pcs ps)).length ≤ 2097153 * ps.length := by
  have := join_len'' (pcs ps) 2097152 (fun n hn => by obtain ⟨x, _, rfl⟩ := List.mem_map.1 hn; exact x.2)
  rwa [pcs_length] at this

set_option maxRecDepth 100000 in
set_option maxHeartbeats 2000000 in
theorem implAboveOf_any (s : ByteArray) (w : World) (hs : s.size ≤ 2097152) :
    Calls Tryz.prog 109 #[.string s] w fun e w' => ∃ a c, e = .returned (.agg #[.int .i64 (faultP s.data.toList), .slice a (above s.data.toList).length c]) ∧ OwnS w.heap.size w' (.slice a (above s.data.toList).length c) (above s.data.toList) ∧ Below w.heap.size w w' := by
  obtain ⟨i1, ki, kz0, kz1, kz2⟩ := info_parts infoS
  refine (callsIn_wide (n := 4)).1 ?_
  refine callsIn_of_wp_marks Tryz.func109 rfl trivial ?_ rfl
  simp only [Tryz.ntmps109, List.size_toArray, List.length_cons, List.length_nil, Nat.reduceAdd, Nat.reduceSub, Array.replicate_succ, Array.replicate_zero, List.push_toArray, List.append_toArray, List.nil_append, List.cons_append]
  gi_wp2_with fail
  refine ⟨trivial, ?_⟩
  refine (callsIn_wide.2 (implPathFault_any s _ hs)).mono ?_
  rintro e w1 ⟨rfl, hb1⟩
  have X0 := hide ((Box.new w (.int .i64 0) (.slice none 0 0) 141).below hb1)
  have n1 : w.heap.size < w1.heap.size := by have := hb1.size; simp at this; omega
  have HB := hide (below_next (below_alloc w _) hb1)
  clear hb1
  by_cases hf : faultP s.data.toList = 0
  · have h1 := faultP_pos hf
    have HA := hide (above_good hf)
    have HF := hide hf
    have h1' : (1 : Int) ≤ (s.size : Int) := by omega
    have HT := hide (tail_data s)
    have hel := extract_le s 1 s.size
    rw [hf]
    clear hf
    gi_wp2_with fail
    refine ⟨trivial, ?_⟩
    refine (callsIn_wide.2 (piecesOf_in _ _)).mono ?_
    rintro e w2 ⟨rfl, rfl⟩
    gi_wp2_with fail
    have HXE := hide (show s.extract 1 s.size = str s.data.toList.tail by rw [← HT.out, str_of])
    have hrl : s.data.toList.tail.length ≤ 2097152 := by rw [List.length_tail, ← Lib.size_eq]; omega
    have hcl := cutB_length s.data.toList.tail
    have bA := Boxed.new w1 54 (.slice none 0 0)
    have bP := Boxed.new (w1.alloc (.cells #[.slice none 0 0] 54)) 9 (.string ⟨#[]⟩)
    have bT := Boxed.new ((w1.alloc (.cells #[.slice none 0 0] 54)).alloc (.cells #[.string ⟨#[]⟩] 9)) 9 (.string (s.extract 1 s.size))
    simp only [World.size_alloc] at bP bT
    have hB0 : Below w.heap.size w (((w1.alloc (.cells #[.slice none 0 0] 54)).alloc (.cells #[.string ⟨#[]⟩] 9)).alloc (.cells #[.string (s.extract 1 s.size)] 9)) := ((HB.out.alloc (by omega) _).alloc (by simp; omega) _).alloc (by simp; omega) _
    have hX0 := ((X0.out.below (below_alloc w1 (.cells #[.slice none 0 0] 54))).below (below_alloc _ (.cells #[.string ⟨#[]⟩] 9))).below (below_alloc _ (.cells #[.string (s.extract 1 s.size)] 9))
    refine wpIn_rangeFunc_ownF rfl (by decide) (gf := 111) (lb := #[.pointer (some ⟨w1.heap.size + 1 + 1, 0, none⟩)]) rfl trivial (enters_of Tryz.func111 (by kernel_rfl) rfl)
      (pieces_stops _ (w1.heap.size + 1 + 1) w.heap.size s.data.toList.tail hrl _ (by simp) (by rw [← HXE.out]; exact bT.cell)) belowK_t (belowK_b (by simp; omega)) (Below.refl _ _) (fun _ => rfl)
      (fun (pre : List Pc) W => ((∃ v, Boxed W w1.heap.size 54 v ∧ OwnS (w1.heap.size + 3) W v (aboveN (pcs pre))) ∧ Boxed W (w1.heap.size + 1) 9 (.string (str (joinB (pcs pre)))) ∧ Box W w.heap.size (.int .i64 0) (.slice none 0 0) ∧ w1.heap.size + 3 ≤ W.heap.size) ∧ Below w.heap.size w W)
      (fun c (pre : List Pc) W => False)
      (OwnFrom.and (OwnFrom.and (Own.from (ownS_own _ _ _ (fun pre => aboveN (pcs pre))) _) (OwnFrom.and (Own.from (boxed_own _ _ (fun pre => .string (str (joinB (pcs pre))))) _) (OwnFrom.and (Own.from (box_own _ _ _) _) (fun _ _ _ _ hs hg _ => Nat.le_trans hs hg.size)))) (ownFrom_below (Nat.le_refl _) (by simp; omega)))
      (fun c => ownFrom_pure _ _)
      ⟨⟨⟨_, (bA.alloc _).alloc _, OwnS.nil _ _⟩, bP.alloc _, hX0, by simp⟩, hB0⟩
      (fun x => { tmps := #[.string s, undef, .pointer (some ⟨w.heap.size, 0, none⟩), .int .i64 0, .pointer (some ⟨w1.heap.size, 0, none⟩), .pointer (some ⟨w1.heap.size + 1, 0, none⟩), .string (str x.1), .string s, .int .i64 0, .int .i64 0, .bool false, undef, undef, .string s, .string (s.extract 1 s.size), .func (.func 111) #[] #[.pointer (some ⟨w1.heap.size + 1 + 1, 0, none⟩)], .string (str x.1), undef, undef, undef, undef, undef, undef, undef, undef, undef, undef, undef, undef], defers := [] }) ?assign ?body ?done ?stop
    case assign =>
      intro l x W K hK
      gi_wp2_with fail
      exact hK
    case body =>
      rintro l pre ⟨x, hx⟩ W ⟨⟨⟨v, hv, hO⟩, hP, hX, hsz⟩, hB⟩ hlt
      obtain ⟨va, vc, rfl⟩ := hO.shape
      have hjl := join_len_pcs pre
      have hpl : pre.length ≤ 2097152 := by omega
      have HJS := hide (join_snoc (pcs pre) x)
      generalize hj : joinB (pcs pre) = j at *
      have HJ := hide hj
      clear hj
      have hz1 : ¬ 9223372036854775807 < 1 + (str x).size := by rw [str_size]; omega
      have hz2 : ¬ 9223372036854775807 < (str j).size + (1 + (str x).size) := by rw [str_size, str_size]; omega
      have hv0 := hv.cell
      have hv1 := hv.frozen
      have hP0 := hP.cell
      have hP1 := hP.frozen
      have HX := hide hX
      have HB' := hide hB
      have HO := hide hO
      have HV := hide hv
      have HP := hide hP
      clear hX hB hO hv hP
      by_cases h0 : pre = []
      · subst h0
        have he : (str j).toList.isEmpty = true := by rw [← HJ.out, ByteArray.toList_eq, str_data]; rfl
        gi_wp2_with fail
        have KS := hide (Kept.setCell (S := fun b => b = w1.heap.size + 1) (p := ⟨w1.heap.size + 1, 0, none⟩) (Kept.refl _ W) (fun _ => rfl) (.string (str j ++ ((⟨#[47]⟩ : ByteArray) ++ str x))))
        exact ⟨KeepsOthers.setCell _ _ _, (Below.refl w.heap.size W).setCell (p := ⟨w1.heap.size + 1, 0, none⟩) (by simp; omega) _, ⟨⟨_, HV.out.other (by omega) _, HO.out.kept KS.out (fun b hb e => by have := (HO.out.lt b hb).1; omega)⟩, by rw [pcs_snoc, ← HJS.out]; exact HP.out.set _, HX.out.kept KS.out (by omega), by have := KS.out.size; omega⟩, HB'.out.setCell (p := ⟨w1.heap.size + 1, 0, none⟩) (by simp; omega) _⟩
      · have he : (str j).toList.isEmpty = false := by
          rw [← HJ.out, ByteArray.toList_eq, str_data]
          cases pre with
          | nil => exact absurd rfl h0
          | cons p pre => rfl
        have HAS := hide (show aboveN (pcs (pre ++ [⟨x, hx⟩])) = aboveN (pcs pre) ++ [j] by rw [pcs_snoc, aboveN_snoc _ _ (by intro e; apply h0; exact List.map_eq_nil_iff.1 e), HJ.out])
        have hal : (aboveN (pcs pre)).length ≤ 2097152 := by rw [aboveN_length, pcs_length]; omega
        generalize aboveN (pcs pre) = ab at *
        have hm1 : ab.length + 1 ≤ maxLen := by unfold maxLen; omega
        have hm2 : (ab.length + 1) * 16 ≤ 140737488355328 := by omega
        gi_wp2_with (gi_at_builtin; refine wpListIn_append_one rfl (.tmp 19) (.tmp 21) 54 rfl (w1.heap.size + 3) 9 i1 (.string ⟨#[]⟩) 1 16 Tryz.underlying54 ki kz0 kz1 kz2 rfl (by decide) _ _ _ rfl HO.out rfl rfl (by intro u hu; simp at hu; subst hu; rfl) hm1 hm2 hsz ?_; intro v' w2 hown2 hkept hko; obtain ⟨g', cap', rfl⟩ := ownsRow_succ hown2; have O2 := hide (OwnS.snoc hown2 rfl); have K2 := hide hkept; have KO := hide hko; clear hown2 hkept hko; have HV2 := hide (boxed_kept HV.out K2.out (fun hS => by have := (HO.out.lt _ hS).1; omega)); have HP2 := hide (boxed_kept HP.out K2.out (fun hS => by have := (HO.out.lt _ hS).1; omega)); have hv2 := HV2.out.cell; have hv3 := HV2.out.frozen; have HP3 := hide (HP2.out.other (B' := w1.heap.size) (by omega) (.slice (some ⟨g', 0, none⟩) (ab.length + 1) cap')); have hP2 := HP3.out.cell; have hP3 := HP3.out.frozen)
        have KS := hide (Kept.setCell (S := fun b => b = w1.heap.size ∨ b = w1.heap.size + 1) (p := ⟨w1.heap.size + 1, 0, none⟩) (Kept.setCell (S := fun b => b = w1.heap.size ∨ b = w1.heap.size + 1) (p := ⟨w1.heap.size, 0, none⟩) (Kept.refl _ w2) (fun _ => .inl rfl) (.slice (some ⟨g', 0, none⟩) (ab.length + 1) cap')) (fun _ => .inr rfl) (.string (str j ++ ((⟨#[47]⟩ : ByteArray) ++ str x))))
        have hBK := K2.out.below (B := w.heap.size) (by have := HB'.out.size; omega) (fun k hk hS => by have := (HO.out.lt _ hS).1; omega)
        have hBS := KS.out.below (B := w.heap.size) (by have := K2.out.size; omega) (fun k hk hS => by omega)
        exact ⟨KO.out.trans ((KeepsOthers.setCell _ _ _).trans (KeepsOthers.setCell _ _ _)), hBK.trans hBS, ⟨⟨_, (HV2.out.set _).other (by omega) _, by rw [HAS.out]; exact O2.out.kept KS.out (fun b hb e => by have := (O2.out.lt b hb).1; omega)⟩, by rw [pcs_snoc, ← HJS.out]; exact HP3.out.set _, (HX.out.kept K2.out (fun hS => by have := (HO.out.lt _ hS).1; omega)).kept KS.out (by omega), by have := K2.out.size; have := KS.out.size; omega⟩, (HB'.out.trans hBK).trans hBS⟩
    case done =>
      rintro D ys W hD hys ⟨⟨⟨v, hv, hO⟩, hP, hX, hsz⟩, hB⟩ hK
      rw [hys, ← HA.out] at hO
      obtain ⟨va, vc, rfl⟩ := hO.shape
      have hv0 := hv.cell
      have HX := hide hX
      have HB' := hide hB
      have HK := hide hK
      have HO := hide hO
      clear hX hB hK hO hys hv hP
      obtain ⟨⟨q0, q1⟩, q2, q3⟩ := HX.out
      gi_wp2_with fail
      obtain ⟨k1, k2, k3⟩ := end_box HX.out.1 HK.out (.int .i64 0) (.slice va (above s.data.toList).length vc)
      refine ⟨by simp, .inl ⟨_, _, rfl, run_takeDeferred k1, ?_⟩⟩
      refine ⟨.agg #[.int .i64 0, .slice va (above s.data.toList).length vc], by simp [results, Tryz.results109, go_sem, k2, k3], va, vc, by rw [HF.out], ?_, ?_⟩
      · exact ownsRow_putObj ((HO.out.kept (Kept.two W w.heap.size 0 1 _ _) (fun b hb e => by have := (HO.out.lt b hb).1; omega)).mono (by omega)) _ k1 rfl
      · exact ((HB'.out.setCell (p := ⟨w.heap.size, 0, none⟩) (Nat.le_refl _) _).setCell (p := ⟨w.heap.size, 1, none⟩) (Nat.le_refl _) _).trans (belowK_b (w := w) (Nat.le_refl _) _ D _ _ (by simp at hD; omega) k1 rfl rfl)
    case stop =>
      rintro D c pre W hD hpre hc hK
      exact hc.elim
  · have HA := hide (above_bad hf)
    obtain ⟨⟨q0, q1⟩, q2, q3⟩ := X0.out
    obtain ⟨c, hc⟩ : ∃ c, c = faultP s.data.toList := ⟨_, rfl⟩
    rw [← hc] at hf ⊢
    have HC := hide hc
    clear hc
    have hf2 : (c != 0) = true := by simpa using hf
    gi_wp2_with fail
    have h2 := X0.out.1.set (.int .i64 c) (.slice none 0 0)
    refine ⟨.agg #[.int .i64 c, .slice none 0 0], by simp [results, Tryz.results109, go_sem, h2.1, h2.2], ?_⟩
    rw [HA.out, ← HC.out]
    exact ⟨_, _, rfl, OwnS.nil _ _, (HB.out.setCell (p := ⟨w.heap.size, 0, none⟩) (Nat.le_refl _) _).setCell (p := ⟨w.heap.size, 1, none⟩) (Nat.le_refl _) _⟩

set_option maxRecDepth 100000 in
set_option maxHeartbeats 2000000 in
theorem implParentOf_any (s : ByteArray) (w : World) (hs : s.size ≤ 2097152) :
    Calls Tryz.prog 86 #[.string s] w fun e w' => e = .returned (.agg #[.int .i64 (parC s.data.toList), .string (str (parT s.data.toList))]) ∧ Below w.heap.size w w' := by
  have hlen := above_len s.data.toList
  go_enter Tryz.func86, Tryz.ntmps86
  go_wp2_with fail
  refine (implAboveOf_any s _ hs).mono ?_
  rintro e w1 ⟨va, vc, rfl, hO, hb1⟩
  have X0 := hide ((Box.new w (.int .i64 0) (.string ⟨#[]⟩) 35).below hb1)
  have n1 : w.heap.size < w1.heap.size := by have := hb1.size; simp at this; omega
  have HB := hide (below_next (below_alloc w _) hb1)
  have HO := hide hO
  clear hb1 hO
  by_cases hf : faultP s.data.toList = 0
  · have HF := hide hf
    have HA := hide (above_good hf)
    rw [hf]
    clear hf
    by_cases h0 : above s.data.toList = []
    · have HE := hide (par_none HF.out (by rw [← HA.out]; exact h0))
      rw [h0]
      obtain ⟨⟨q0, q1⟩, q2, q3⟩ := X0.out
      clear h0 hlen
      go_wp2_with fail
      rw [HE.out.1, HE.out.2]
      have h2 := (X0.out.1.set (.int .i64 4) (.string ⟨#[]⟩)).below (below_alloc _ (.cells #[.int .i64 0, .slice va 0 vc] 141))
      exact bodyPost_ret (v := .agg #[.int .i64 4, .string ⟨#[]⟩]) (by simp [results, Tryz.results86, go_sem, h2.1, h2.2]) rfl ⟨rfl, ((HB.out.setCell (p := ⟨w.heap.size, 0, none⟩) (Nat.le_refl _) _).setCell (p := ⟨w.heap.size, 1, none⟩) (Nat.le_refl _) _).alloc (by simp [World.setCell]; omega) _⟩
    · have HE := hide (par_good HF.out (by rw [← HA.out]; exact h0))
      have hp := List.length_pos_iff.2 h0
      obtain ⟨b, off, p, rfl, hb, hpe, hck⟩ := HO.out.reads.at (k := (above s.data.toList).length - 1) (by omega)
      have HP := hide (show (aboveN (cutB s.data.toList.tail)).getLastD [] = p by rw [← HA.out]; exact (Option.some.inj (hpe.symm.trans (getLast_at h0))).symm)
      clear hpe
      generalize (above s.data.toList).length = n at *
      have hz : ((n : Int) == 0) = false := by simp; omega
      have hp' : (1 : Int) ≤ (n : Int) := by omega
      have hp2 : (n : Int) ≤ 2 := by omega
      obtain ⟨⟨q0, q1⟩, q2, q3⟩ := X0.out
      go_wp2_with fail
      rw [HE.out.1, HE.out.2, HP.out]
      have h2 := (X0.out.1.set (.int .i64 0) (.string (str p))).below (below_alloc _ (.cells #[.int .i64 0, .slice (some ⟨b, off, none⟩) n vc] 141))
      exact bodyPost_ret (v := .agg #[.int .i64 0, .string (str p)]) (by simp [results, Tryz.results86, go_sem, h2.1, h2.2]) rfl ⟨rfl, ((HB.out.setCell (p := ⟨w.heap.size, 0, none⟩) (Nat.le_refl _) _).setCell (p := ⟨w.heap.size, 1, none⟩) (Nat.le_refl _) _).alloc (by simp [World.setCell]; omega) _⟩
  · have HE := hide (par_bad hf)
    obtain ⟨⟨q0, q1⟩, q2, q3⟩ := X0.out
    obtain ⟨c, hc⟩ : ∃ c, c = faultP s.data.toList := ⟨_, rfl⟩
    rw [← hc] at hf ⊢
    have HC := hide hc
    clear hc
    have hf2 : (c != 0) = true := by simpa using hf
    go_wp2_with fail
    rw [HE.out.1, HE.out.2, ← HC.out]
    have h2 := (X0.out.1.set (.int .i64 c) (.string ⟨#[]⟩)).below (below_alloc _ (.cells #[.int .i64 c, .slice va (above s.data.toList).length vc] 141))
    exact bodyPost_ret (v := .agg #[.int .i64 c, .string ⟨#[]⟩]) (by simp [results, Tryz.results86, go_sem, h2.1, h2.2]) rfl ⟨rfl, ((HB.out.setCell (p := ⟨w.heap.size, 0, none⟩) (Nat.le_refl _) _).setCell (p := ⟨w.heap.size, 1, none⟩) (Nat.le_refl _) _).alloc (by simp [World.setCell]; omega) _⟩


end Go.Proofs.YtlbccbikepkfiaaGreatDoor

namespace Go.Proofs.YtlbccbikepkfiaaGreatDoor
open Go.RowKit
set_option linter.unusedVariables false

theorem hasDir_cons (es : List En) (q : Bs) (k : Nat) {e : En} (h : es[k]? = some e) : hasDir (es.drop k) q = ((decide (e.path = q) && dirK e.kind) || hasDir (es.drop (k + 1)) q) := by
  rw [drop_at h]; simp [hasDir]

set_option maxRecDepth 100000 in
set_option maxHeartbeats 1600000 in
theorem parentFault_any (a : Option Addr) (c n : Nat) (es : List En) (p : Bs) (w : World) (h : RdE w a es) (hn : n = es.length) (hl : es.length ≤ 1048576) (hf : faultP p = 0) (hp : p.length ≤ 1048576) :
    Calls Tryz.prog 54 #[.slice a n c, .string (str p)] w fun r w' => r = .returned (.int .i64 (if homeP es p then 0 else 9)) ∧ Below w.heap.size w w' := by
  subst hn
  have HR := hide h
  clear h
  obtain ⟨F, hF⟩ : ∃ F : Int, F = if homeP es p then 0 else 9 := ⟨_, rfl⟩
  rw [← hF]
  by_cases h0 : parentP p = []
  · have HE := hide (show F = 0 from by rw [hF]; simp [homeP, h0])
    have HP := hide (par_none hf (parentP_nil.1 h0))
    clear h0 hf hF
    go_enter Tryz.func54, Tryz.ntmps54
    go_wp2_with fail
    refine (implParentOf_any _ _ (by rw [str_size]; omega)).mono ?_
    rintro r w1 ⟨rfl, hb1⟩
    rw [str_data, HP.out.1, HP.out.2]
    have HB1 := hide (below_next hb1 (below_alloc w1 (.cells #[.int .i64 4, .string (str [])] 35)))
    clear hb1
    go_wp2_with fail
    go_ret
    exact ⟨ret_int HE.out.symm, HB1.out⟩
  · have HE := hide (show F = if hasDir es (parentP p) then 0 else 9 from by rw [hF]; simp [homeP, h0])
    have HP := hide (par_good hf (fun e => h0 (parentP_nil.2 e)))
    have HQ : Hid (parT p = parentP p) := hide HP.out.2
    clear h0 hf hF
    go_enter Tryz.func54, Tryz.ntmps54
    go_wp2_with fail
    refine (implParentOf_any _ _ (by rw [str_size]; omega)).mono ?_
    rintro r w1 ⟨rfl, hb1⟩
    rw [str_data, HP.out.1, HQ.out]
    generalize parentP p = q at *
    have X1 := hide (Box.new w1 (.int .i64 0) (.string (str q)) 35)
    have HB1 := hide (below_next hb1 (below_alloc w1 (.cells #[.int .i64 0, .string (str q)] 35)))
    clear hb1 HP HQ
    go_wp2_with fail
    generalize w1.alloc (.cells #[.int .i64 0, .string (str q)] 35) = W1 at *
    generalize w1.heap.size = b1 at *
    go_loopw [15] (fun i wr => ∃ k : Nat, k ≤ es.length ∧ i = .int .i64 k ∧ Hid (hasDir es q = hasDir (es.drop k) q) ∧ Hid (Below W1.heap.size W1 wr)) (fun i _ => es.length - (intOf i).toNat)
    case atStart => exact ⟨0, Nat.zero_le _, rfl, hide (by simp), hide (Below.refl _ _)⟩
    case round =>
      obtain ⟨k, hk, rfl, HF, HW⟩ := hrel
      have HR1 := hide (HR.out.below (below_next HB1.out HW.out))
      obtain ⟨⟨t0, t1⟩, t2, t3⟩ := X1.out.below HW.out
      by_cases hlt : k < es.length
      · obtain ⟨b, off, e, x, cc, rfl, hb, he, c0, c1, c2, c3, hr⟩ := HR1.out.at hlt
        have HX := hide he
        clear he hr
        have HF2 := hide (HF.out.trans (hasDir_cons es q k HX.out))
        have hb1w : b1 < wr.heap.size := World.block_lt_of_cell? _ _ t0
        by_cases hq : e.path = q
        · have hs1 := str_yes hq
          cases hd : dirK e.kind
          · have HO := hide (show hasDir es q = hasDir (es.drop (k + 1)) q from by rw [HF2.out]; simp [hd])
            have HD := hide hd
            clear hd hq
            go_wp2_with fail
            refine (itemOf_any _ _ _ _ _ _ _).mono ?_
            rintro r w3 ⟨rfl, hb3⟩
            go_wp2_with fail
            refine (isDir_any _ _ _ _ _ _ _).mono ?_
            rintro r w4 ⟨rfl, hb4⟩
            rw [HD.out]
            have HW4 := hide (below_next HW.out (below_next (below_alloc wr _) (below_next hb3 hb4)))
            clear hb3 hb4
            go_wp2_with fail
            go_roundw
            case rel => exact ⟨k + 1, by omega, by go_num, HO, HW4⟩
            case measure => simp [intOf]; omega
          · have HO := hide (show hasDir es q = true from by rw [HF2.out]; simp [hd, hq])
            have HD := hide hd
            clear hd hq
            go_wp2_with fail
            refine (itemOf_any _ _ _ _ _ _ _).mono ?_
            rintro r w3 ⟨rfl, hb3⟩
            go_wp2_with fail
            refine (isDir_any _ _ _ _ _ _ _).mono ?_
            rintro r w4 ⟨rfl, hb4⟩
            rw [HD.out]
            have HW4 := hide (below_next HW.out (below_next (below_alloc wr _) (below_next hb3 hb4)))
            clear hb3 hb4
            go_wp2_with fail
            go_ret
            exact ⟨ret_int (by rw [HE.out, HO.out]; rfl), below_next HB1.out HW4.out⟩
        · have hs1 := str_no hq
          have HO := hide (show hasDir es q = hasDir (es.drop (k + 1)) q from by rw [HF2.out]; simp [hq])
          clear hq
          go_wp2_with fail
          go_roundw
          case rel => exact ⟨k + 1, by omega, by go_num, HO, hide (below_next HW.out (below_alloc wr _))⟩
          case measure => simp [intOf]; omega
      · have HO := hide (show hasDir es q = false from by rw [HF.out, List.drop_eq_nil_of_le (by omega)]; rfl)
        go_wp2_with fail
        go_ret
        exact ⟨ret_int (by rw [HE.out, HO.out]; rfl), below_next HB1.out HW.out⟩

set_option maxRecDepth 100000 in
set_option maxHeartbeats 1600000 in
theorem entriesFault_any (a : Option Addr) (c n : Nat) (es : List En) (w : World) (h : RdE w a es) (hn : n = es.length) (hl : es.length ≤ 1048576) (hs : SmallE es) :
    Calls Tryz.prog 27 #[.slice a n c] w fun r w' => r = .returned (.int .i64 (layFromH (homeP es) none es)) ∧ Below w.heap.size w w' := by
  subst hn
  obtain ⟨F, hF⟩ : ∃ F : Int, F = layFromH (homeP es) (prevE es 0) (es.drop 0) := ⟨_, rfl⟩
  have e0 : layFromH (homeP es) none es = F := by rw [hF]; simp [prevE]
  rw [e0]
  have HE := hide hF
  have HR := hide h
  have HS := hide hs
  clear h hs e0 hF
  go_enter Tryz.func27, Tryz.ntmps27
  go_wp2_with fail
  go_loopw [9] (fun i wr => ∃ k : Nat, k ≤ es.length ∧ i = .int .i64 k ∧ Hid (F = layFromH (homeP es) (prevE es k) (es.drop k)) ∧ Hid (Below w.heap.size w wr)) (fun i _ => es.length - (intOf i).toNat)
  case atStart => exact ⟨0, Nat.zero_le _, rfl, HE, hide (Below.refl _ _)⟩
  case round =>
    obtain ⟨k, hk, rfl, HF, HW⟩ := hrel
    have HR1 := hide (HR.out.below HW.out)
    by_cases hlt : k < es.length
    · obtain ⟨b, off, e, x, cc, rfl, hb, he, c0, c1, c2, c3, hr⟩ := HR1.out.at hlt
      have HX := hide he
      have HRc := hide (hr.below (below_alloc wr (.cells #[.string (str e.path), .int .i64 e.kind, .int .i64 e.size, .slice x e.chunks.length cc] 39)))
      have hsm := HS.out e (List.mem_of_getElem? he)
      have HN := hide (below_next HW.out (below_alloc wr (.cells #[.string (str e.path), .int .i64 e.kind, .int .i64 e.size, .slice x e.chunks.length cc] 39)))
      have F4 := hide (Four.new wr (.string (str e.path)) (.int .i64 e.kind) (.int .i64 e.size) (.slice x e.chunks.length cc) 39)
      clear he hr
      go_wp2_with fail
      clear c0 c1 c2 c3
      generalize wr.alloc (.cells #[.string (str e.path), .int .i64 e.kind, .int .i64 e.size, .slice x e.chunks.length cc] 39) = W1 at *
      generalize wr.heap.size = b1 at *
      refine (implEntryFault_any e _ _ _ _ HRc.out rfl hsm.1 hsm.2).mono ?_
      rintro r w1 ⟨rfl, hb1⟩
      obtain ⟨f0, f1, f2, f3⟩ := F4.out.below hb1
      have HW1 := hide (below_next HN.out hb1)
      have HR2 := hide (HR.out.below HW1.out)
      clear hb1 HRc F4 HN HR1 HW
      by_cases hz : entFault e = 0
      · have hpz := entFault_zero hz
        have HPZ := hide hpz
        have HZ := hide hz
        rw [hz]
        clear hz hpz
        cases k with
        | zero =>
          have HL := hide (show lowE (prevE es 0) e = false from rfl)
          go_wp2_with fail
          go_quiet (fail)
          go_wp2_with fail
          have HW2 := hide (below_drewN HW1.out nq)
          have HR3 := hide (HR2.out.below (below_drewN (Below.refl w1.heap.size w1) nq))
          clear HW1 HR2
          generalize w1.drewN nq = W at *
          refine (parentFault_any _ c es.length es e.path W HR3.out rfl hl HPZ.out hsm.1).mono ?_
          rintro r w4 ⟨rfl, hb4⟩
          have HW3 := hide (below_next HW2.out hb4)
          clear hb4
          cases hh : homeP es e.path
          · have HO := hide (layH_home HF.out HX.out HZ.out HL.out hh)
            clear hh
            go_wp2_with fail
            go_ret
            exact ⟨ret_int HO.out.symm, HW3.out⟩
          · have HO := hide (layH_next HF.out HX.out HZ.out HL.out hh)
            clear hh
            go_wp2_with fail
            go_roundw
            case rel => exact ⟨1, by omega, by go_num, HO, HW3⟩
            case measure => simp [intOf]; omega
        | succ j =>
          have hg : (0 : Int) < ((j + 1 : Nat) : Int) := by omega
          obtain ⟨b2, off2, e2, x2, cc2, hbb, hb2, he2, d0, d1, d2, d3, hr2⟩ := HR2.out.at (show j < es.length by omega)
          simp only [Option.some.injEq, Addr.mk.injEq, and_true] at hbb
          obtain ⟨rfl, rfl⟩ := hbb
          have HL := hide (show lowE (prevE es (j + 1)) e = (Op.bytesLess e.path e2.path || (e.path == e2.path)) from by simp [prevE, lowE, he2])
          clear he2 d1 d2 d3 hr2
          cases hlow : (Op.bytesLess (str e.path).toList (str e2.path).toList || ((str e.path).toList == (str e2.path).toList))
          · have HL2 := hide (show lowE (prevE es (j + 1)) e = false from by rw [HL.out]; rw [str_toList, str_toList] at hlow; exact hlow)
            go_wp2_with fail
            go_quiet (fail)
            go_wp2_with fail
            have HW2 := hide (below_drewN HW1.out nq)
            have HR3 := hide (HR2.out.below (below_drewN (Below.refl w1.heap.size w1) nq))
            clear HW1 HR2
            generalize w1.drewN nq = W at *
            refine (parentFault_any _ c es.length es e.path W HR3.out rfl hl HPZ.out hsm.1).mono ?_
            rintro r w4 ⟨rfl, hb4⟩
            have HW3 := hide (below_next HW2.out hb4)
            clear hb4
            cases hh : homeP es e.path
            · have HO := hide (layH_home HF.out HX.out HZ.out HL2.out hh)
              clear hh
              go_wp2_with fail
              go_ret
              exact ⟨ret_int HO.out.symm, HW3.out⟩
            · have HO := hide (layH_next HF.out HX.out HZ.out HL2.out hh)
              clear hh
              go_wp2_with fail
              go_roundw
              case rel => exact ⟨j + 1 + 1, by omega, by go_num, HO, HW3⟩
              case measure => simp [intOf]; omega
          · have HL2 := hide (show lowE (prevE es (j + 1)) e = true from by rw [HL.out]; rw [str_toList, str_toList] at hlow; exact hlow)
            have HO := hide (layH_low HF.out HX.out HZ.out HL2.out)
            go_wp2_with fail
            go_quiet (fail)
            go_wp2_with fail
            go_ret
            exact ⟨ret_int HO.out.symm, below_drewN HW1.out _⟩
      · have HZ := hide (layH_bad HF.out HX.out hz)
        have hz2 : (entFault e != 0) = true := by simp; exact hz
        clear hz
        go_wp2_with fail
        go_ret
        exact ⟨ret_int HZ.out.symm, HW1.out⟩
    · have HZ := hide (layH_end HF.out (by omega))
      go_wp2_with fail
      go_ret
      exact ⟨ret_int HZ.out.symm, HW.out⟩

set_option maxRecDepth 100000 in
theorem implLayerFault_any (a : Option Addr) (c n : Nat) (es : List En) (w : World) (h : RdE w a es) (hn : n = es.length) (hl : es.length ≤ 1048576) (hs : SmallE es) :
    Calls Tryz.prog 11 #[.slice a n c] w fun r w' => r = .returned (.int .i64 (layFaultP es)) ∧ Below w.heap.size w w' := by
  subst hn
  by_cases hm : 12 < es.length
  · have HE := hide (layFaultP_many hm)
    have hm2 : (12 : Int) < (es.length : Int) := by omega
    clear h hs
    go_enter Tryz.func11, Tryz.ntmps11
    go_wp2_with fail
    go_ret
    exact ⟨ret_int HE.out.symm, Below.refl _ _⟩
  · have HE : Hid (layFaultP es = layFromH (homeP es) none es) := hide (by simp [layFaultP, hm])
    have hm2 : ¬ (12 : Int) < (es.length : Int) := by omega
    have HF := hide (entriesFault_any a c es.length es w h rfl hl hs)
    clear h hs hm
    generalize layFaultP es = F at HE ⊢
    go_enter Tryz.func11, Tryz.ntmps11
    go_wp2_with fail
    refine HF.out.mono ?_
    rintro r w1 ⟨rfl, hb⟩
    have HB := hide hb
    clear hb
    go_wp2_with fail
    go_ret
    exact ⟨ret_int HE.out.symm, HB.out⟩

/-- What the program answers to a layer and a path. -/
def askP (es : List En) (p : Bs) : Int := if layFaultP es = 0 then faultP p else layFaultP es

end Go.Proofs.YtlbccbikepkfiaaGreatDoor

namespace Go.Proofs.YtlbccbikepkfiaaGreatDoor
open Go.RowKit Go.Maps
set_option linter.unusedVariables false
attribute [local go_sem ↓] Go.wp_at_zero Go.wp_at_succ

/-- Is an entry dropped with a path? -/
def goesE (p : Bs) (also : Bool) (e : En) : Bool := belowB e.path p || (also && decide (e.path = p))
def restE (es : List En) (p : Bs) (also : Bool) : List En := es.filter fun e => !(goesE p also e)
theorem restE_take_in {es : List En} {p : Bs} {also : Bool} {k : Nat} {e : En} (he : es[k]? = some e) (h : goesE p also e = false) : restE (es.take (k + 1)) p also = restE (es.take k) p also ++ [e] := by
  rw [take_snoc_at he]; simp [restE, h]
theorem restE_take_out {es : List En} {p : Bs} {also : Bool} {k : Nat} {e : En} (he : es[k]? = some e) (h : goesE p also e = true) : restE (es.take (k + 1)) p also = restE (es.take k) p also := by
  rw [take_snoc_at he]; simp [restE, h]
theorem restE_len (es : List En) (p : Bs) (also : Bool) : (restE es p also).length ≤ es.length := List.length_filter_le _ _
theorem restE_small {es : List En} (h : SmallE es) (p : Bs) (also : Bool) : SmallE (restE es p also) := fun e he => h e (List.mem_filter.1 he).1
theorem SE.made (w : World) : SE w.heap.size (w.alloc (.cells #[] 39)) (.slice (some ⟨w.heap.size, 0, none⟩) 0 0) [] := (GE.made w).se

/-- v is a row of entries made since w0, whose chunks were read then. -/
def LE (w0 w : World) (v : Value) (es : List En) : Prop :=
  ∃ rs : List Rw, rs.map Rw.e = es ∧ w.ownsRow w0.heap.size 39 4 v es.length (rowR rs) ∧ ∀ r ∈ rs, Reads .i64 w0 r.a r.e.chunks
theorem LE.se {w0 w : World} {v : Value} {es : List En} (h : LE w0 w v es) (hb : Below w0.heap.size w0 w) : SE w0.heap.size w v es := by
  obtain ⟨rs, he, h1, h2⟩ := h
  exact ⟨rs, he, h1, fun r hr => (h2 r hr).below hb⟩
theorem LE.shape {w0 w : World} {v : Value} {es : List En} (h : LE w0 w v es) : ∃ a c, v = .slice a es.length c := by
  obtain ⟨rs, _, h1, _⟩ := h
  exact ownsRow_shape h1
theorem LE.made (w : World) : LE w (w.alloc (.cells #[] 39)) (.slice (some ⟨w.heap.size, 0, none⟩) 0 0) [] :=
  ⟨[], rfl, World.ownsRow_made w #[] 0 (Nat.le_refl _) (Nat.zero_le _) rfl, fun r hr => by simp at hr⟩
theorem LE.push {w0 w2 : World} {v' : Value} {es : List En} {rs : List Rw} {e : En} {a : Option Addr} {c m : Nat} (he : rs.map Rw.e = es) (hm : m = es.length)
    (h2 : ∀ r ∈ rs, Reads .i64 w0 r.a r.e.chunks) (hr : Reads .i64 w0 a e.chunks)
    (hv' : w2.ownsRow w0.heap.size 39 4 v' (m + 1) (rowR rs ++ cellsR ⟨e, a, c⟩)) : LE w0 w2 v' (es ++ [e]) := by
  subst hm
  refine ⟨rs ++ [⟨e, a, c⟩], by rw [List.map_append, he]; rfl, ?_, fun r hx => ?_⟩
  · rw [rowR_append, List.length_append]
    simpa [rowR] using hv'
  · rcases List.mem_append.1 hx with hx | hx
    · exact h2 r hx
    · simp only [List.mem_singleton] at hx
      subst hx
      exact hr


/-- What DropBelow answers. -/
def dropList (es : List En) (p : Bs) : List En := if askE es p = 0 then restE es p true else []

end Go.Proofs.YtlbccbikepkfiaaGreatDoor
