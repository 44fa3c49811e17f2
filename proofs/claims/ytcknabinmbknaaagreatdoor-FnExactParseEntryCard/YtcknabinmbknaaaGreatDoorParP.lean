/-
  The model's ParseEntry, over what l5Parse answers.
-/
import Derived.Test.YtcknabinmbknaaaGreatDoorParO
import Derived.Test.YtcknabinmbknaaaGreatDoorRdH
namespace Go.Proofs.YtcknabinmbknaaaGreatDoor
open Go.RowKit
set_option linter.unusedVariables false
set_option maxRecDepth 100000

set_option maxHeartbeats 1600000 in
theorem specParseEntry_of (l : Bs) (w : World) (h : ∀ w1, Calls Tryz.prog 47 #[.string (str l)] w1 (ResP (parE l) w1)) :
    Calls Tryz.prog 17 #[.string (str l)] w (ResE (parCode l) (parList l) w) := by
  have X0 := hide (Box.new w (.int .i64 0) (.slice none 0 0) 27)
  have B0 := hide (below_alloc w (.cells #[.int .i64 0, .slice none 0 0] 27))
  cases hp : parE l with
  | none =>
    obtain ⟨e1, e2⟩ := parE_no hp
    rw [e1, e2]
    rw [hp] at h
    have HH := hide h
    clear h hp e1 e2
    go_enter Tryz.func17, Tryz.ntmps17
    go_wp2_with fail
    refine (HH.out _).mono ?_
    rintro r w1 ⟨rfl, b1⟩
    have A1 := hide (below_next b1 (below_alloc w1 (.cells #[.string ⟨#[]⟩, .int .i64 0, .int .i64 0, .slice none 0 0] 39)))
    have B1 := hide (below_next B0.out A1.out)
    obtain ⟨⟨t0, t1⟩, t2, t3⟩ := X0.out.below A1.out
    clear b1 X0 B0 A1
    go_wp2_with fail
    exact bodyPost_ret (v := .agg #[.int .i64 5, .slice none 0 0]) (by simp [results, Tryz.results17, go_sem, t0, t1]) rfl (ResE.bad (Nat.le_refl _) B1.out)
  | some x =>
    obtain ⟨e1, e2⟩ := parE_so hp
    rw [e1, e2]
    rw [hp] at h
    have HH := hide h
    have hz0 : (w.alloc (.cells #[.int .i64 0, .slice none 0 0] 27)).heap.size = w.heap.size + 1 := by simp
    have HZ0 := hide hz0
    clear h hp e1 e2 hz0
    obtain ⟨xp, xk, xs, xc⟩ := x
    go_enter Tryz.func17, Tryz.ntmps17
    go_wp2_with fail
    refine (HH.out _).mono ?_
    rintro r w1 ⟨⟨av, cv, rfl, hO⟩, b1⟩
    rw [HZ0.out] at hO
    have A1 := hide (below_next b1 (below_alloc w1 (.cells #[.string (str xp), .int .i64 xk, .int .i64 xs, .slice av xc.length cv] 39)))
    have M1 := hide (Four.new w1 (.string (str xp)) (.int .i64 xk) (.int .i64 xs) (.slice av xc.length cv) 39)
    have O1 := hide (ownsRow_below hO (below_alloc w1 (.cells #[.string (str xp), .int .i64 xk, .int .i64 xs, .slice av xc.length cv] 39)))
    have X1 := hide (X0.out.below A1.out)
    have B1 := hide (below_next B0.out A1.out)
    clear b1 hO X0 B0 A1 HZ0
    have hlt : w.heap.size < (w1.alloc (.cells #[.string (str xp), .int .i64 xk, .int .i64 xs, .slice av xc.length cv] 39)).heap.size := X1.out.1.lt
    have GG := hide (GE.solo (w := w.alloc (.cells #[.int .i64 0, .slice none 0 0] 27)) (w1 := w1.alloc (.cells #[.string (str xp), .int .i64 xk, .int .i64 xs, .slice av xc.length cv] 39)) (e := ⟨xp, xk, xs, xc⟩) (av := av) (cv := cv) (by simp at hlt ⊢; omega) (by simp; exact O1.out))
    obtain ⟨⟨t0, t1⟩, z0, z1⟩ := X1.out.below (below_alloc _ (.cells #[.string (str xp), .int .i64 xk, .int .i64 xs, .slice av xc.length cv] 39))
    have B4 := hide (below_next B1.out (below_alloc _ (.cells #[.string (str xp), .int .i64 xk, .int .i64 xs, .slice av xc.length cv] 39)))
    obtain ⟨m0, m1, m2, m3⟩ := M1.out
    have hb := hide (ResE.of (q := 0) (w2 := w) (b := w.heap.size) (u := .int .i64 0) (v := .slice (some ⟨(w1.alloc (.cells #[.string (str xp), .int .i64 xk, .int .i64 xs, .slice av xc.length cv] 39)).heap.size, 0, none⟩) 1 1) (by simp) (Nat.le_refl _) rfl GG.out B4.out)
    have hz1 : (w1.alloc (.cells #[.string (str xp), .int .i64 xk, .int .i64 xs, .slice av xc.length cv] 39)).heap.size = w1.heap.size + 1 := by simp
    rw [hz1] at hb
    clear GG B4 B1 O1 X1 hlt hz1
    go_wp2_with fail
    exact bodyPost_ret (v := .agg #[.int .i64 0, .slice (some ⟨w1.heap.size + 1, 0, none⟩) 1 1]) (by simp [results, Tryz.results17, go_sem, t0, t1]) rfl hb.out
end Go.Proofs.YtcknabinmbknaaaGreatDoor
