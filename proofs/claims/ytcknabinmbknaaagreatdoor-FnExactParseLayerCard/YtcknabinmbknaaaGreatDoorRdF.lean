/-
  The program's readEntry where it does not come to the digests: what it returns, or that it panics.
-/
import Derived.Test.YtcknabinmbknaaaGreatDoorRdE
import Derived.Test.YtcknabinmbknaaaGreatDoorRdN
import Derived.Test.YtcknabinmbknaaaGreatDoorJ1
namespace Go.Proofs.YtcknabinmbknaaaGreatDoor
open Go.RowKit
set_option linter.unusedVariables false
set_option maxRecDepth 100000

/-- A block of four cells that may be written. -/
structure F4 (w : World) (b : Nat) (u0 u1 u2 u3 : Value) : Prop where
  four : Four w b u0 u1 u2 u3
  free : ∀ i, w.frozen? ⟨b, i, none⟩ = false
theorem F4.new (w : World) (u0 u1 u2 u3 : Value) (t : TypeId) : F4 (w.alloc (.cells #[u0, u1, u2, u3] t)) w.heap.size u0 u1 u2 u3 := ⟨Four.new w u0 u1 u2 u3 t, fun i => by simp⟩
theorem F4.kept {S : Nat → Prop} {w w' : World} {b : Nat} {u0 u1 u2 u3 : Value} (h : F4 w b u0 u1 u2 u3) (hk : Kept S w w') (hn : ¬ S b) : F4 w' b u0 u1 u2 u3 :=
  ⟨⟨(hk.cell (p := ⟨b, 0, none⟩) h.four.lt hn).trans h.four.1, (hk.cell (p := ⟨b, 1, none⟩) h.four.lt hn).trans h.four.2.1, (hk.cell (p := ⟨b, 2, none⟩) h.four.lt hn).trans h.four.2.2.1, (hk.cell (p := ⟨b, 3, none⟩) h.four.lt hn).trans h.four.2.2.2⟩, fun i => (hk.frozen (p := ⟨b, i, none⟩) h.four.lt hn).trans (h.free i)⟩
theorem F4.below {w w' : World} {b : Nat} {u0 u1 u2 u3 : Value} (h : F4 w b u0 u1 u2 u3) (hk : Below w.heap.size w w') : F4 w' b u0 u1 u2 u3 := h.kept (S := fun _ => False) (Kept.of_below hk) id
theorem F4.set0 {w : World} {b : Nat} {u0 u1 u2 u3 : Value} (h : F4 w b u0 u1 u2 u3) (v : Value) : F4 (w.setCell ⟨b, 0, none⟩ v) b v u1 u2 u3 :=
  ⟨⟨cell_set_same h.four.1, by rw [cell_set_other (by simp)]; exact h.four.2.1, by rw [cell_set_other (by simp)]; exact h.four.2.2.1, by rw [cell_set_other (by simp)]; exact h.four.2.2.2⟩, fun i => by rw [World.frozen?_setCell]; exact h.free i⟩
theorem F4.set1 {w : World} {b : Nat} {u0 u1 u2 u3 : Value} (h : F4 w b u0 u1 u2 u3) (v : Value) : F4 (w.setCell ⟨b, 1, none⟩ v) b u0 v u2 u3 :=
  ⟨⟨by rw [cell_set_other (by simp)]; exact h.four.1, cell_set_same h.four.2.1, by rw [cell_set_other (by simp)]; exact h.four.2.2.1, by rw [cell_set_other (by simp)]; exact h.four.2.2.2⟩, fun i => by rw [World.frozen?_setCell]; exact h.free i⟩
theorem F4.set2 {w : World} {b : Nat} {u0 u1 u2 u3 : Value} (h : F4 w b u0 u1 u2 u3) (v : Value) : F4 (w.setCell ⟨b, 2, none⟩ v) b u0 u1 v u3 :=
  ⟨⟨by rw [cell_set_other (by simp)]; exact h.four.1, by rw [cell_set_other (by simp)]; exact h.four.2.1, cell_set_same h.four.2.2.1, by rw [cell_set_other (by simp)]; exact h.four.2.2.2⟩, fun i => by rw [World.frozen?_setCell]; exact h.free i⟩
theorem F4.set3 {w : World} {b : Nat} {u0 u1 u2 u3 : Value} (h : F4 w b u0 u1 u2 u3) (v : Value) : F4 (w.setCell ⟨b, 3, none⟩ v) b u0 u1 u2 v :=
  ⟨⟨by rw [cell_set_other (by simp)]; exact h.four.1, by rw [cell_set_other (by simp)]; exact h.four.2.1, by rw [cell_set_other (by simp)]; exact h.four.2.2.1, cell_set_same h.four.2.2.2⟩, fun i => by rw [World.frozen?_setCell]; exact h.free i⟩

/-- What stands while an entry is read: the result's cells, the entry's, the cursor's. -/
structure St (w W : World) (l : Bs) (more : Bool) (v0 v1 v2 v3 : Value) : Prop where
  x : F4 W w.heap.size (.string ⟨#[]⟩) (.int .i64 0) (.int .i64 0) (.slice none 0 0)
  m : F4 W (w.heap.size + 1) v0 v1 v2 v3
  c : Box W (w.heap.size + 1 + 1) (.string (str l)) (.bool more)
  below : Below w.heap.size w W
  size : w.heap.size + 3 ≤ W.heap.size
theorem St.next {w W W' : World} {l l' : Bs} {more more' : Bool} {v0 v1 v2 v3 : Value} (h : St w W l more v0 v1 v2 v3) (c : Box W' (w.heap.size + 1 + 1) (.string (str l')) (.bool more')) (k : Kept (fun x => x = w.heap.size + 1 + 1) W W') (z : W'.heap.size = W.heap.size) : St w W' l' more' v0 v1 v2 v3 := by
  have hz := h.size
  exact ⟨h.x.kept k (by omega), h.m.kept k (by omega), c, h.below.trans (k.below (B := w.heap.size) (by have := h.below.size; omega) (fun b hb e => by omega)), by omega⟩
theorem St.low {w W W' : World} {l : Bs} {more : Bool} {v0 v1 v2 v3 : Value} (h : St w W l more v0 v1 v2 v3) (b : Below W.heap.size W W') : St w W' l more v0 v1 v2 v3 := by
  have hz := h.size
  have hb := b.size
  exact ⟨h.x.below b, h.m.below b, h.c.below b, below_next h.below b, by omega⟩
theorem keptCell (W : World) (b i : Nat) (v : Value) : Kept (fun x => x = b) W (W.setCell ⟨b, i, none⟩ v) := Kept.setCell (S := fun x => x = b) (p := ⟨b, i, none⟩) (Kept.refl _ _) (fun _ => rfl) _
theorem St.set {w W : World} {l : Bs} {more : Bool} {v0 v1 v2 v3 v0' v1' v2' v3' : Value} (h : St w W l more v0 v1 v2 v3) (i : Nat) (v : Value) (hm : F4 (W.setCell ⟨w.heap.size + 1, i, none⟩ v) (w.heap.size + 1) v0' v1' v2' v3') : St w (W.setCell ⟨w.heap.size + 1, i, none⟩ v) l more v0' v1' v2' v3' := by
  have hz := h.size
  have k := keptCell W (w.heap.size + 1) i v
  exact ⟨h.x.kept k (by omega), hm, h.c.kept k (by omega), h.below.trans (k.below (B := w.heap.size) (by have := h.below.size; omega) (fun b hb e => by omega)), by simp [World.setCell]; omega⟩
theorem St.new (w : World) (l : Bs) (t1 t2 t3 : TypeId) : St w (((w.alloc (.cells #[.string ⟨#[]⟩, .int .i64 0, .int .i64 0, .slice none 0 0] t1)).alloc (.cells #[.string ⟨#[]⟩, .int .i64 0, .int .i64 0, .slice none 0 0] t2)).alloc (.cells #[.string (str l), .bool true] t3)) l true (.string ⟨#[]⟩) (.int .i64 0) (.int .i64 0) (.slice none 0 0) := by
  refine ⟨((F4.new w _ _ _ _ t1).below (below_alloc _ _)).below (below_alloc _ _), ?_, ?_, below_next (below_next (below_alloc w _) (below_alloc _ _)) (below_alloc _ _), by simp⟩
  · have := (F4.new (w.alloc (.cells #[.string ⟨#[]⟩, .int .i64 0, .int .i64 0, .slice none 0 0] t1)) (.string ⟨#[]⟩) (.int .i64 0) (.int .i64 0) (.slice none 0 0) t2).below (below_alloc _ (.cells #[.string (str l), .bool true] t3))
    simpa using this
  · have := Box.new ((w.alloc (.cells #[.string ⟨#[]⟩, .int .i64 0, .int .i64 0, .slice none 0 0] t1)).alloc (.cells #[.string ⟨#[]⟩, .int .i64 0, .int .i64 0, .slice none 0 0] t2)) (.string (str l)) (.bool true) t3
    simpa using this
/-- The result's cells are written over: the last step. -/
theorem St.out {w W : World} {l : Bs} {more : Bool} {v0 v1 v2 v3 : Value} (h : St w W l more v0 v1 v2 v3) (y0 y1 y2 y3 : Value) : Below w.heap.size w ((((W.setCell ⟨w.heap.size, 0, none⟩ y0).setCell ⟨w.heap.size, 1, none⟩ y1).setCell ⟨w.heap.size, 2, none⟩ y2).setCell ⟨w.heap.size, 3, none⟩ y3) :=
  (((h.below.setCell (p := ⟨w.heap.size, 0, none⟩) (Nat.le_refl _) y0).setCell (p := ⟨w.heap.size, 1, none⟩) (Nat.le_refl _) y1).setCell (p := ⟨w.heap.size, 2, none⟩) (Nat.le_refl _) y2).setCell (p := ⟨w.heap.size, 3, none⟩) (Nat.le_refl _) y3
theorem cut_next {m : UInt8} {l a : Bs} {r : List Bs} (h : cutC m l = a :: r) (hr : r ≠ []) (hl : l.length ≤ 2097152) : cutC m (joinC m r) = r ∧ (joinC m r).length ≤ 2097152 := by
  obtain ⟨hjl, -, hjc⟩ := cut_more h hr
  have h2 := congrArg List.length hjl
  simp only [List.length_append, List.length_cons] at h2
  exact ⟨hjc, by omega⟩

set_option maxHeartbeats 3200000 in
theorem readEntry_a (l a : Bs) (r : List Bs) (hc0 : cutC 32 l = a :: r) (hk : kindW a = none) (u : TypeId) (vp : Value) (w : World) (hl : l.length ≤ 2097152) (hg : Gl w u vp) :
    Calls Tryz.prog 46 #[.string (str l)] w fun r w' => r = Dies u vp ∧ Below w.heap.size w w' := by
  have HC0 := hide hc0
  clear hc0
  have HK := hide hk
  clear hk
  have HG : Hid (∀ w' : World, Below w.heap.size w w' → Gl w' u vp) := hide (fun w' hb => hg.below hb)
  clear hg
  have S0 := hide (St.new w l 39 39 88)
  go_enter Tryz.func46, Tryz.ntmps46
  go_wp2_with fail
  go_step3
  go_wp2_with fail
  generalize ((w.alloc (.cells #[.string ⟨#[]⟩, .int .i64 0, .int .i64 0, .slice none 0 0] 39)).alloc (.cells #[.string ⟨#[]⟩, .int .i64 0, .int .i64 0, .slice none 0 0] 39)).alloc (.cells #[.string (str l), .bool true] 88) = W0 at *
  refine (next_yes 32 (w.heap.size + 1 + 1) l a r W0 S0.out.c HC0.out hl).mono ?_
  rintro r0 w1 ⟨rfl, c1, k1, z1⟩
  have S1 := hide (S0.out.next c1 k1 z1)
  clear c1 k1 z1 S0
  go_wp2_with fail
  refine (readKind_no a u vp w1 (HG.out _ S1.out.below) HK.out).mono ?_
  rintro r1 w2 ⟨rfl, rfl⟩
  exact ⟨rfl, rfl, S1.out.below⟩
set_option maxHeartbeats 3200000 in
theorem readEntry_b (l a : Bs) (K : Int) (hc0 : cutC 32 l = [a]) (hk : kindW a = some K) (u : TypeId) (vp : Value) (w : World) (hl : l.length ≤ 2097152) (hg : Gl w u vp) :
    Calls Tryz.prog 46 #[.string (str l)] w fun r w' => r = Dies u vp ∧ Below w.heap.size w w' := by
  have HC0 := hide hc0
  clear hc0
  have HK := hide hk
  clear hk
  have HG : Hid (∀ w' : World, Below w.heap.size w w' → Gl w' u vp) := hide (fun w' hb => hg.below hb)
  clear hg
  have S0 := hide (St.new w l 39 39 88)
  go_enter Tryz.func46, Tryz.ntmps46
  go_wp2_with fail
  go_step3
  go_wp2_with fail
  generalize ((w.alloc (.cells #[.string ⟨#[]⟩, .int .i64 0, .int .i64 0, .slice none 0 0] 39)).alloc (.cells #[.string ⟨#[]⟩, .int .i64 0, .int .i64 0, .slice none 0 0] 39)).alloc (.cells #[.string (str l), .bool true] 88) = W0 at *
  refine (next_yes 32 (w.heap.size + 1 + 1) l a [] W0 S0.out.c HC0.out hl).mono ?_
  rintro r0 w1 ⟨rfl, c1, k1, z1⟩
  have S1 := hide (S0.out.next c1 k1 z1)
  clear c1 k1 z1 S0
  go_wp2_with fail
  refine (readKind_yes a K u vp w1 (HG.out _ S1.out.below) HK.out).mono ?_
  rintro r1 w2 ⟨rfl, rfl⟩
  obtain ⟨⟨q0, q1, q2, q3⟩, qf⟩ := S1.out.m
  have qg := qf 1
  go_wp2_with fail
  have S2 := hide (S1.out.set 1 (.int .i64 K) (S1.out.m.set1 (.int .i64 K)))
  generalize w2.setCell ⟨w.heap.size + 1, 1, none⟩ (.int .i64 K) = W2 at *
  clear S1 q0 q1 q2 q3 qf qg
  go_wp2_with fail
  refine (next_no (w.heap.size + 1 + 1) [] _ u vp W2 S2.out.c (HG.out _ S2.out.below).un).mono ?_
  rintro r2 w3 ⟨rfl, rfl⟩
  exact ⟨rfl, rfl, S2.out.below⟩
set_option maxHeartbeats 3200000 in
theorem readEntry_c (l a p : Bs) (K : Int) (rest : List Bs) (hc0 : cutC 32 l = a :: p :: rest) (hk : kindW a = some K) (h1 : K ≠ 1) (u : TypeId) (vp : Value) (w : World) (hl : l.length ≤ 2097152) (hg : Gl w u vp) :
    Calls Tryz.prog 46 #[.string (str l)] w fun r w' => r = .returned (.agg #[.string (str p), .int .i64 K, .int .i64 0, .slice none 0 0]) ∧ Below w.heap.size w w' := by
  have HC0 := hide hc0
  clear hc0
  have HK := hide hk
  clear hk
  have hkn : (K != 1) = true := by simp [h1]
  have HG : Hid (∀ w' : World, Below w.heap.size w w' → Gl w' u vp) := hide (fun w' hb => hg.below hb)
  clear hg
  have S0 := hide (St.new w l 39 39 88)
  go_enter Tryz.func46, Tryz.ntmps46
  go_wp2_with fail
  refine wp_scope_jumps 0 (fun a' W => ∃ (rl : Bs) (mo : Bool) (u5 u6 u7 u8 u9 u10 u11 u12 u13 u14 u15 u16 u17 u18 u19 u20 u21 u22 u23 u24 u25 u26 u27 u28 u29 u30 u31 : Value), St w W rl mo (.string (str p)) (.int .i64 K) (.int .i64 0) (.slice none 0 0) ∧ a' = { tmps := #[.string (str l), undef, .pointer (some ⟨w.heap.size, 0, none⟩), .pointer (some ⟨w.heap.size + 1, 0, none⟩), .pointer (some ⟨w.heap.size + 1 + 1, 0, none⟩), u5, u6, u7, u8, u9, u10, u11, u12, u13, u14, u15, u16, u17, u18, u19, u20, u21, u22, u23, u24, u25, u26, u27, u28, u29, u30, u31], defers := [] }) (fun _ _ => 0) rfl ?_ ?_
  · go_wp2_with fail
    generalize ((w.alloc (.cells #[.string ⟨#[]⟩, .int .i64 0, .int .i64 0, .slice none 0 0] 39)).alloc (.cells #[.string ⟨#[]⟩, .int .i64 0, .int .i64 0, .slice none 0 0] 39)).alloc (.cells #[.string (str l), .bool true] 88) = W0 at *
    refine (next_yes 32 (w.heap.size + 1 + 1) l a (p :: rest) W0 S0.out.c HC0.out hl).mono ?_
    rintro r0 w1 ⟨rfl, c1, k1, z1⟩
    have S1 := hide (S0.out.next c1 k1 z1)
    clear c1 k1 z1 S0
    go_wp2_with fail
    refine (readKind_yes a K u vp w1 (HG.out _ S1.out.below) HK.out).mono ?_
    rintro r1 w2 ⟨rfl, rfl⟩
    obtain ⟨⟨q0, q1, q2, q3⟩, qf⟩ := S1.out.m
    have qg := qf 1
    go_wp2_with fail
    have S2 := hide (S1.out.set 1 (.int .i64 K) (S1.out.m.set1 (.int .i64 K)))
    generalize w2.setCell ⟨w.heap.size + 1, 1, none⟩ (.int .i64 K) = W2 at *
    clear S1 q0 q1 q2 q3 qf qg
    have hd1 : decide ((p :: rest) ≠ ([] : List Bs)) = true := by simp
    rw [hd1] at S2
    have HN1 := hide (cut_next HC0.out (by simp) hl)
    clear hd1
    go_wp2_with fail
    refine (next_yes 32 (w.heap.size + 1 + 1) _ p rest W2 S2.out.c HN1.out.1 HN1.out.2).mono ?_
    rintro r2 w3 ⟨rfl, c3, k3, z3⟩
    have S3 := hide (S2.out.next c3 k3 z3)
    have hpl : p.length ≤ 2097152 := by
      have h2 := cutC_each (m := 32) l p (by rw [HC0.out]; simp)
      omega
    clear c3 k3 z3 S2
    go_wp2_with fail
    refine (cloneM (str p) w3 (by rw [str_size]; omega)).mono ?_
    rintro r3 w4 ⟨rfl, b4⟩
    have S4 := hide (S3.out.low b4)
    clear b4 S3
    obtain ⟨⟨q0, q1, q2, q3⟩, qf⟩ := S4.out.m
    have qg := qf 0
    go_wp2_with fail
    have S5 := hide (S4.out.set 0 (.string (str p)) (S4.out.m.set0 (.string (str p))))
    generalize w4.setCell ⟨w.heap.size + 1, 0, none⟩ (.string (str p)) = W5 at *
    clear S4 q0 q1 q2 q3 qf qg
    obtain ⟨⟨q0, q1, q2, q3⟩, qf⟩ := S5.out.m
    go_wp2_with fail
    go_step3
    exact ⟨rfl, _, _, _, _, _, _, _, _, _, _, _, _, _, _, _, _, _, _, _, _, _, _, _, _, _, _, _, _, _, S5.out, rfl⟩
  · rintro a' W ⟨rl, mo, u5, u6, u7, u8, u9, u10, u11, u12, u13, u14, u15, u16, u17, u18, u19, u20, u21, u22, u23, u24, u25, u26, u27, u28, u29, u30, u31, S, rfl⟩
    have H := hide S
    clear S
    obtain ⟨⟨q0, q1, q2, q3⟩, qf⟩ := H.out.m
    obtain ⟨⟨x0, x1, x2, x3⟩, xf⟩ := H.out.x
    have g0 := xf 0
    have g1 := xf 1
    have g2 := xf 2
    have g3 := xf 3
    go_wp2_with fail
    simp only [Exit.jump]
    refine bodyPost_ret (v := .agg #[.string (str p), .int .i64 K, .int .i64 0, .slice none 0 0]) (by simp [results, Tryz.results46, go_sem, x0, x1, x2, x3]) rfl ⟨rfl, H.out.out _ _ _ _⟩
set_option maxHeartbeats 3200000 in
theorem readEntry_d (l a p : Bs) (hc0 : cutC 32 l = [a, p]) (hk : kindW a = some 1) (u : TypeId) (vp : Value) (w : World) (hl : l.length ≤ 2097152) (hg : Gl w u vp) :
    Calls Tryz.prog 46 #[.string (str l)] w fun r w' => r = Dies u vp ∧ Below w.heap.size w w' := by
  have HC0 := hide hc0
  clear hc0
  have HK := hide hk
  clear hk
  have HG : Hid (∀ w' : World, Below w.heap.size w w' → Gl w' u vp) := hide (fun w' hb => hg.below hb)
  clear hg
  have S0 := hide (St.new w l 39 39 88)
  go_enter Tryz.func46, Tryz.ntmps46
  go_wp2_with fail
  go_step3
  go_wp2_with fail
  generalize ((w.alloc (.cells #[.string ⟨#[]⟩, .int .i64 0, .int .i64 0, .slice none 0 0] 39)).alloc (.cells #[.string ⟨#[]⟩, .int .i64 0, .int .i64 0, .slice none 0 0] 39)).alloc (.cells #[.string (str l), .bool true] 88) = W0 at *
  refine (next_yes 32 (w.heap.size + 1 + 1) l a [p] W0 S0.out.c HC0.out hl).mono ?_
  rintro r0 w1 ⟨rfl, c1, k1, z1⟩
  have S1 := hide (S0.out.next c1 k1 z1)
  clear c1 k1 z1 S0
  go_wp2_with fail
  refine (readKind_yes a 1 u vp w1 (HG.out _ S1.out.below) HK.out).mono ?_
  rintro r1 w2 ⟨rfl, rfl⟩
  obtain ⟨⟨q0, q1, q2, q3⟩, qf⟩ := S1.out.m
  have qg := qf 1
  go_wp2_with fail
  have S2 := hide (S1.out.set 1 (.int .i64 1) (S1.out.m.set1 (.int .i64 1)))
  generalize w2.setCell ⟨w.heap.size + 1, 1, none⟩ (.int .i64 1) = W2 at *
  clear S1 q0 q1 q2 q3 qf qg
  have hd1 : decide ((p :: []) ≠ ([] : List Bs)) = true := by simp
  rw [hd1] at S2
  have HN1 := hide (cut_next HC0.out (by simp) hl)
  clear hd1
  go_wp2_with fail
  refine (next_yes 32 (w.heap.size + 1 + 1) _ p [] W2 S2.out.c HN1.out.1 HN1.out.2).mono ?_
  rintro r2 w3 ⟨rfl, c3, k3, z3⟩
  have S3 := hide (S2.out.next c3 k3 z3)
  have hpl : p.length ≤ 2097152 := by
    have h2 := cutC_each (m := 32) l p (by rw [HC0.out]; simp)
    omega
  clear c3 k3 z3 S2
  go_wp2_with fail
  refine (cloneM (str p) w3 (by rw [str_size]; omega)).mono ?_
  rintro r3 w4 ⟨rfl, b4⟩
  have S4 := hide (S3.out.low b4)
  clear b4 S3
  obtain ⟨⟨q0, q1, q2, q3⟩, qf⟩ := S4.out.m
  have qg := qf 0
  go_wp2_with fail
  have S5 := hide (S4.out.set 0 (.string (str p)) (S4.out.m.set0 (.string (str p))))
  generalize w4.setCell ⟨w.heap.size + 1, 0, none⟩ (.string (str p)) = W5 at *
  clear S4 q0 q1 q2 q3 qf qg
  obtain ⟨⟨q0, q1, q2, q3⟩, qf⟩ := S5.out.m
  have hd2 : decide (([] : List Bs) ≠ []) = false := by simp
  rw [hd2] at S5
  clear hd2
  go_wp2_with fail
  refine (next_no (w.heap.size + 1 + 1) [] _ u vp W5 S5.out.c (HG.out _ S5.out.below).un).mono ?_
  rintro r4 w6 ⟨rfl, rfl⟩
  exact ⟨rfl, rfl, S5.out.below⟩
set_option maxHeartbeats 3200000 in
theorem readEntry_e (l a p n : Bs) (r' : List Bs) (hc0 : cutC 32 l = a :: p :: n :: r') (hk : kindW a = some 1) (hv : numW n = none) (u : TypeId) (vp : Value) (w : World) (hl : l.length ≤ 2097152) (hg : Gl w u vp) :
    Calls Tryz.prog 46 #[.string (str l)] w fun r w' => r = Dies u vp ∧ Below w.heap.size w w' := by
  have HC0 := hide hc0
  clear hc0
  have HK := hide hk
  clear hk
  have HV := hide hv
  clear hv
  have HG : Hid (∀ w' : World, Below w.heap.size w w' → Gl w' u vp) := hide (fun w' hb => hg.below hb)
  clear hg
  have S0 := hide (St.new w l 39 39 88)
  go_enter Tryz.func46, Tryz.ntmps46
  go_wp2_with fail
  go_step3
  go_wp2_with fail
  generalize ((w.alloc (.cells #[.string ⟨#[]⟩, .int .i64 0, .int .i64 0, .slice none 0 0] 39)).alloc (.cells #[.string ⟨#[]⟩, .int .i64 0, .int .i64 0, .slice none 0 0] 39)).alloc (.cells #[.string (str l), .bool true] 88) = W0 at *
  refine (next_yes 32 (w.heap.size + 1 + 1) l a (p :: n :: r') W0 S0.out.c HC0.out hl).mono ?_
  rintro r0 w1 ⟨rfl, c1, k1, z1⟩
  have S1 := hide (S0.out.next c1 k1 z1)
  clear c1 k1 z1 S0
  go_wp2_with fail
  refine (readKind_yes a 1 u vp w1 (HG.out _ S1.out.below) HK.out).mono ?_
  rintro r1 w2 ⟨rfl, rfl⟩
  obtain ⟨⟨q0, q1, q2, q3⟩, qf⟩ := S1.out.m
  have qg := qf 1
  go_wp2_with fail
  have S2 := hide (S1.out.set 1 (.int .i64 1) (S1.out.m.set1 (.int .i64 1)))
  generalize w2.setCell ⟨w.heap.size + 1, 1, none⟩ (.int .i64 1) = W2 at *
  clear S1 q0 q1 q2 q3 qf qg
  have hd1 : decide ((p :: (n :: r')) ≠ ([] : List Bs)) = true := by simp
  rw [hd1] at S2
  have HN1 := hide (cut_next HC0.out (by simp) hl)
  clear hd1
  go_wp2_with fail
  refine (next_yes 32 (w.heap.size + 1 + 1) _ p (n :: r') W2 S2.out.c HN1.out.1 HN1.out.2).mono ?_
  rintro r2 w3 ⟨rfl, c3, k3, z3⟩
  have S3 := hide (S2.out.next c3 k3 z3)
  have hpl : p.length ≤ 2097152 := by
    have h2 := cutC_each (m := 32) l p (by rw [HC0.out]; simp)
    omega
  clear c3 k3 z3 S2
  go_wp2_with fail
  refine (cloneM (str p) w3 (by rw [str_size]; omega)).mono ?_
  rintro r3 w4 ⟨rfl, b4⟩
  have S4 := hide (S3.out.low b4)
  clear b4 S3
  obtain ⟨⟨q0, q1, q2, q3⟩, qf⟩ := S4.out.m
  have qg := qf 0
  go_wp2_with fail
  have S5 := hide (S4.out.set 0 (.string (str p)) (S4.out.m.set0 (.string (str p))))
  generalize w4.setCell ⟨w.heap.size + 1, 0, none⟩ (.string (str p)) = W5 at *
  clear S4 q0 q1 q2 q3 qf qg
  obtain ⟨⟨q0, q1, q2, q3⟩, qf⟩ := S5.out.m
  have hd2 : decide ((n :: r') ≠ ([] : List Bs)) = true := by simp
  rw [hd2] at S5
  have HN2 := hide (cut_next HN1.out.1 (by simp) HN1.out.2)
  have hnl : n.length ≤ 2097152 := by
    have h2 := cutC_each (m := 32) l n (by rw [HC0.out]; simp)
    omega
  clear hd2
  go_wp2_with fail
  refine (next_yes 32 (w.heap.size + 1 + 1) _ n r' W5 S5.out.c HN2.out.1 HN2.out.2).mono ?_
  rintro r4 w6 ⟨rfl, c6, k6, z6⟩
  have S6 := hide (S5.out.next c6 k6 z6)
  clear c6 k6 z6 S5 q0 q1 q2 q3 qf
  go_wp2_with fail
  refine (readNumber_no n u vp w6 (HG.out _ S6.out.below) hnl HV.out).mono ?_
  rintro r5 w7 ⟨rfl, b7⟩
  exact ⟨rfl, rfl, below_next S6.out.below b7⟩
set_option maxHeartbeats 3200000 in
theorem readEntry_f (l a p n : Bs) (r' : List Bs) (V : Int) (hc0 : cutC 32 l = a :: p :: n :: r') (hk : kindW a = some 1) (hv : numW n = some V) (hr : joinC 32 r' = [45]) (u : TypeId) (vp : Value) (w : World) (hl : l.length ≤ 2097152) (hg : Gl w u vp) :
    Calls Tryz.prog 46 #[.string (str l)] w fun r w' => r = .returned (.agg #[.string (str p), .int .i64 1, .int .i64 V, .slice none 0 0]) ∧ Below w.heap.size w w' := by
  have HC0 := hide hc0
  clear hc0
  have HK := hide hk
  clear hk
  have HV := hide hv
  clear hv
  have HG : Hid (∀ w' : World, Below w.heap.size w w' → Gl w' u vp) := hide (fun w' hb => hg.below hb)
  clear hg
  have S0 := hide (St.new w l 39 39 88)
  go_enter Tryz.func46, Tryz.ntmps46
  go_wp2_with fail
  refine wp_scope_jumps 0 (fun a' W => ∃ (rl : Bs) (mo : Bool) (u5 u6 u7 u8 u9 u10 u11 u12 u13 u14 u15 u16 u17 u18 u19 u20 u21 u22 u23 u24 u25 u26 u27 u28 u29 u30 u31 : Value), St w W rl mo (.string (str p)) (.int .i64 1) (.int .i64 V) (.slice none 0 0) ∧ a' = { tmps := #[.string (str l), undef, .pointer (some ⟨w.heap.size, 0, none⟩), .pointer (some ⟨w.heap.size + 1, 0, none⟩), .pointer (some ⟨w.heap.size + 1 + 1, 0, none⟩), u5, u6, u7, u8, u9, u10, u11, u12, u13, u14, u15, u16, u17, u18, u19, u20, u21, u22, u23, u24, u25, u26, u27, u28, u29, u30, u31], defers := [] }) (fun _ _ => 0) rfl ?_ ?_
  · go_wp2_with fail
    generalize ((w.alloc (.cells #[.string ⟨#[]⟩, .int .i64 0, .int .i64 0, .slice none 0 0] 39)).alloc (.cells #[.string ⟨#[]⟩, .int .i64 0, .int .i64 0, .slice none 0 0] 39)).alloc (.cells #[.string (str l), .bool true] 88) = W0 at *
    refine (next_yes 32 (w.heap.size + 1 + 1) l a (p :: n :: r') W0 S0.out.c HC0.out hl).mono ?_
    rintro r0 w1 ⟨rfl, c1, k1, z1⟩
    have S1 := hide (S0.out.next c1 k1 z1)
    clear c1 k1 z1 S0
    go_wp2_with fail
    refine (readKind_yes a 1 u vp w1 (HG.out _ S1.out.below) HK.out).mono ?_
    rintro r1 w2 ⟨rfl, rfl⟩
    obtain ⟨⟨q0, q1, q2, q3⟩, qf⟩ := S1.out.m
    have qg := qf 1
    go_wp2_with fail
    have S2 := hide (S1.out.set 1 (.int .i64 1) (S1.out.m.set1 (.int .i64 1)))
    generalize w2.setCell ⟨w.heap.size + 1, 1, none⟩ (.int .i64 1) = W2 at *
    clear S1 q0 q1 q2 q3 qf qg
    have hd1 : decide ((p :: (n :: r')) ≠ ([] : List Bs)) = true := by simp
    rw [hd1] at S2
    have HN1 := hide (cut_next HC0.out (by simp) hl)
    clear hd1
    go_wp2_with fail
    refine (next_yes 32 (w.heap.size + 1 + 1) _ p (n :: r') W2 S2.out.c HN1.out.1 HN1.out.2).mono ?_
    rintro r2 w3 ⟨rfl, c3, k3, z3⟩
    have S3 := hide (S2.out.next c3 k3 z3)
    have hpl : p.length ≤ 2097152 := by
      have h2 := cutC_each (m := 32) l p (by rw [HC0.out]; simp)
      omega
    clear c3 k3 z3 S2
    go_wp2_with fail
    refine (cloneM (str p) w3 (by rw [str_size]; omega)).mono ?_
    rintro r3 w4 ⟨rfl, b4⟩
    have S4 := hide (S3.out.low b4)
    clear b4 S3
    obtain ⟨⟨q0, q1, q2, q3⟩, qf⟩ := S4.out.m
    have qg := qf 0
    go_wp2_with fail
    have S5 := hide (S4.out.set 0 (.string (str p)) (S4.out.m.set0 (.string (str p))))
    generalize w4.setCell ⟨w.heap.size + 1, 0, none⟩ (.string (str p)) = W5 at *
    clear S4 q0 q1 q2 q3 qf qg
    obtain ⟨⟨q0, q1, q2, q3⟩, qf⟩ := S5.out.m
    have hd2 : decide ((n :: r') ≠ ([] : List Bs)) = true := by simp
    rw [hd2] at S5
    have HN2 := hide (cut_next HN1.out.1 (by simp) HN1.out.2)
    have hnl : n.length ≤ 2097152 := by
      have h2 := cutC_each (m := 32) l n (by rw [HC0.out]; simp)
      omega
    clear hd2
    go_wp2_with fail
    refine (next_yes 32 (w.heap.size + 1 + 1) _ n r' W5 S5.out.c HN2.out.1 HN2.out.2).mono ?_
    rintro r4 w6 ⟨rfl, c6, k6, z6⟩
    have S6 := hide (S5.out.next c6 k6 z6)
    clear c6 k6 z6 S5 q0 q1 q2 q3 qf
    rw [hr] at S6
    go_wp2_with fail
    refine (readNumber_yes n V w6 hnl HV.out).mono ?_
    rintro r5 w7 ⟨rfl, b7⟩
    have S7 := hide (S6.out.low b7)
    clear b7 S6
    obtain ⟨⟨q0, q1, q2, q3⟩, qf⟩ := S7.out.m
    have qg := qf 2
    obtain ⟨⟨c0, c1⟩, c2, c3⟩ := S7.out.c
    rw [show str [45] = (⟨#[45]⟩ : ByteArray) from rfl] at c0
    go_wp2_with fail
    have S8 := hide (S7.out.set 2 (.int .i64 V) (S7.out.m.set2 (.int .i64 V)))
    generalize w7.setCell ⟨w.heap.size + 1, 2, none⟩ (.int .i64 V) = W8 at *
    clear S7 q0 q1 q2 q3 qf qg c0 c1 c2 c3
    go_step3
    exact ⟨rfl, _, _, _, _, _, _, _, _, _, _, _, _, _, _, _, _, _, _, _, _, _, _, _, _, _, _, _, _, _, S8.out, rfl⟩
  · rintro a' W ⟨rl, mo, u5, u6, u7, u8, u9, u10, u11, u12, u13, u14, u15, u16, u17, u18, u19, u20, u21, u22, u23, u24, u25, u26, u27, u28, u29, u30, u31, S, rfl⟩
    have H := hide S
    clear S
    obtain ⟨⟨q0, q1, q2, q3⟩, qf⟩ := H.out.m
    obtain ⟨⟨x0, x1, x2, x3⟩, xf⟩ := H.out.x
    have g0 := xf 0
    have g1 := xf 1
    have g2 := xf 2
    have g3 := xf 3
    go_wp2_with fail
    simp only [Exit.jump]
    refine bodyPost_ret (v := .agg #[.string (str p), .int .i64 1, .int .i64 V, .slice none 0 0]) (by simp [results, Tryz.results46, go_sem, x0, x1, x2, x3]) rfl ⟨rfl, H.out.out _ _ _ _⟩
end Go.Proofs.YtcknabinmbknaaaGreatDoor
