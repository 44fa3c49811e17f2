/-
  The program's seen.
-/
import Derived.Test.YtjkmbicedbdifaaGreatSeeK
namespace Go.Proofs.YtjkmbicedbdifaaGreat
open Go.RowKit Go.Maps
set_option linter.unusedVariables false
attribute [local go_sem ↓] Go.wp_at_zero Go.wp_at_succ

theorem kept_below {w w1 w2 : World} {b B : Nat} (h1 : Below B w w1) (h2 : Kept (fun x => x = b) w1 w2) (hB : B ≤ w1.heap.size) (hb : B ≤ b) : Below B w w2 :=
  ⟨h2.os.trans h1.os, h2.tape.trans h1.tape, h2.output.trans h1.output, Nat.le_trans h1.size h2.size, fun k hk => (h2.block k (by omega) (by omega)).trans (h1.block k hk)⟩
/-- What is left of S: what is seen. -/
def leftS (S : Nat → Bs → Option En) (i : Nat) (p : Bs) : Option En := if goneS S i p then none else S i p
set_option maxRecDepth 100000 in
set_option maxHeartbeats 3200000 in
theorem seen_any (b N : Nat) (S : Nat → Bs → Option En) (w0 w : World) (h : SeeM w0 w b N S) :
    Calls Tryz.prog 25 #[.map (some b)] w fun r w' => ∃ b2, r = .returned (.map (some b2)) ∧ w.heap.size ≤ b2 ∧ SeeM w0 w' b2 N (leftS S) ∧ Below w.heap.size w w' := by
  have B0 := hide (below_alloc w (.cells #[.map (some b)] 57))
  have hx0 : (w.alloc (.cells #[.map (some b)] 57)).cell? ⟨w.heap.size, 0, none⟩ = some (.map (some b)) := by simp
  have hs0 : (w.alloc (.cells #[.map (some b)] 57)).heap.size = w.heap.size + 1 := by simp
  have HM0 := hide (h.below B0.out)
  have hlt := h.lt
  clear h
  go_enter Tryz.func25, Tryz.ntmps25
  go_wp2_with fail
  generalize w.alloc (.cells #[.map (some b)] 57) = W0 at *
  refine (cloneSee_any b N S w0 W0 HM0.out).mono ?_
  rintro r w1 ⟨rfl, hM1, hb1⟩
  rw [hs0] at hM1
  have M1 := hide hM1
  have MO := hide (HM0.out.below hb1)
  have hx1 := (hb1.cell (p := ⟨w.heap.size, 0, none⟩) (by show w.heap.size < W0.heap.size; omega)).trans hx0
  have B1 := hide (below_next B0.out hb1)
  have hsz := hb1.size
  have hb2lt := hM1.lt
  clear hM1 hb1 HM0 hx0
  have HA := hide (show AsksM w1 (w.heap.size + 1) S 62 #[.pointer (some ⟨w.heap.size, 0, none⟩)] (goneS S) from
    ⟨enters_of Tryz.func62 (by kernel_rfl) rfl, fun i p e x cc W hi hp hk =>
      seenLit_any b N i w.heap.size p S e x cc w0 W (MO.out.kept hk (by omega)) hp ((hk.cell (p := ⟨w.heap.size, 0, none⟩) (by show w.heap.size < w1.heap.size; omega) (by show ¬ w.heap.size = w.heap.size + 1; omega)).trans hx1)⟩)
  have HD := hide (deleteFunc_any (w.heap.size + 1) N S _ _ (goneS S) w0 w1 M1.out HA.out)
  go_wp2_with fail
  refine HD.out.mono ?_
  rintro r w2 ⟨rfl, hM2, hk2⟩
  have M2 := hide hM2
  have B2 := hide (kept_below B1.out hk2 (by omega) (by omega))
  clear hM2 hk2 HD HA M1 MO
  go_wp2_with fail
  go_ret
  exact ⟨_, rfl, by omega, M2.out, B2.out⟩
end Go.Proofs.YtjkmbicedbdifaaGreat
