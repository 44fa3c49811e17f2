/-
  At every two stores the law FnExactSameStores returns true: SameStores answers as its model does and leaves its arguments alone. No condition.
-/
import Derived.Test.YtfamojijgjmcmaaKSameSt7
import Derived.Test.YtfamojijgjmcmaaKSameSt9
import Derived.ProofKit
import Derived.OpenShut
import Derived.ShutString
import Derived.ChangeOld
namespace Go.Proofs.Ytfamojijgjmcmaa.sameStores
open Go.ChangeShapes Go.WideShapes Go.ChangeAt Go.RowKit
set_option linter.unusedVariables false
attribute [local go_sem ↓] Go.wp_at_zero Go.wp_at_succ

theorem own : ownKnob Try.prog.godebug = none := by kernel_rfl
theorem laidOut : laidOutB Try.prog = true := by kernel_rfl
set_option maxRecDepth 100000 in
set_option maxHeartbeats 12800000 in
theorem walk (w : World) (sa : Option Addr) (sc : Nat) (wa : Option Addr) (wc : Nat) (fa : Option Addr) (fc : Nat) (ca : Option Addr) (cc : Nat) (ga : Option Addr) (gc : Nat) (la : Option Addr) (lc : Nat) (l : List Sn) (W : List Wn) (F : List Int) (D : Nat → Int) (P : Nat → List Int) (n : Nat) (S L : List Int) (i0 : InX w sa wa fa ca ga la l W F D P n S L) (sa' : Option Addr) (sc' : Nat) (wa' : Option Addr) (wc' : Nat) (fa' : Option Addr) (fc' : Nat) (ca' : Option Addr) (cc' : Nat) (ga' : Option Addr) (gc' : Nat) (la' : Option Addr) (lc' : Nat) (l' : List Sn) (W' : List Wn) (F' : List Int) (D' : Nat → Int) (P' : Nat → List Int) (n' : Nat) (S' L' : List Int) (i1 : InX w sa' wa' fa' ca' ga' la' l' W' F' D' P' n' S' L') :
    Calls Try.prog 3 #[.agg #[.slice sa l.length sc, .slice wa W.length wc, .slice fa F.length fc, .slice ca n cc, .slice ga S.length gc, .slice la L.length lc], .agg #[.slice sa' l'.length sc', .slice wa' W'.length wc', .slice fa' F'.length fc', .slice ca' n' cc', .slice ga' S'.length gc', .slice la' L'.length lc']] w fun r w' => r = .returned (.bool true) ∧ Below w.heap.size w w' := by
  have HB := hide (below_next (below_alloc w (.cells #[.slice sa l.length sc, .slice wa W.length wc, .slice fa F.length fc, .slice ca n cc, .slice ga S.length gc, .slice la L.length lc] 32)) (below_alloc _ (.cells #[.slice sa' l'.length sc', .slice wa' W'.length wc', .slice fa' F'.length fc', .slice ca' n' cc', .slice ga' S'.length gc', .slice la' L'.length lc'] 32)))
  have X1 := hide ((Six.new w (.slice sa l.length sc) (.slice wa W.length wc) (.slice fa F.length fc) (.slice ca n cc) (.slice ga S.length gc) (.slice la L.length lc) 32).below (below_alloc _ (.cells #[.slice sa' l'.length sc', .slice wa' W'.length wc', .slice fa' F'.length fc', .slice ca' n' cc', .slice ga' S'.length gc', .slice la' L'.length lc'] 32)))
  have X2 := hide (Six.new (w.alloc (.cells #[.slice sa l.length sc, .slice wa W.length wc, .slice fa F.length fc, .slice ca n cc, .slice ga S.length gc, .slice la L.length lc] 32)) (.slice sa' l'.length sc') (.slice wa' W'.length wc') (.slice fa' F'.length fc') (.slice ca' n' cc') (.slice ga' S'.length gc') (.slice la' L'.length lc') 32)
  have h1 : (w.alloc (.cells #[.slice sa l.length sc, .slice wa W.length wc, .slice fa F.length fc, .slice ca n cc, .slice ga S.length gc, .slice la L.length lc] 32)).heap.size = w.heap.size + 1 := by simp
  rw [h1] at X2
  clear h1
  have R0 := hide (fun u (hu : Below w.heap.size w u) => i0.rd.below hu)
  have R1 := hide (fun u (hu : Below w.heap.size w u) => i1.rd.below hu)
  have t0 : 0 ≤ szT l W F P n S L := by unfold szT szF; omega
  have t1 : 0 ≤ szT l' W' F' P' n' S' L' := by unfold szT szF; omega
  have mp0 : ∀ i, i < n → ((P i).length : Int) ≤ 9223372036854775807 := fun i hi => by have := (i0.pl i hi).2; unfold maxLen at this; omega
  have mp1 : ∀ i, i < n' → ((P' i).length : Int) ≤ 9223372036854775807 := fun i hi => by have := (i1.pl i hi).2; unfold maxLen at this; omega
  by_cases c0 : szT l W F P n S L ≤ 1048576
  · by_cases c1 : szT l' W' F' P' n' S' L' ≤ 1048576 - szT l W F P n S L
    · have HF0 := hide (fit_of c0)
      have HF1 := hide (fit_of (show szT l' W' F' P' n' S' L' ≤ 1048576 by omega))
      have HU0 := hide (fun i hi => (i0.pl i hi).1)
      have HU1 := hide (fun i hi => (i1.pl i hi).1)
      have HS0 := hide (fun u (hu : Below w.heap.size w u) => szStore_fits sa sc wa wc fa fc ca cc ga gc la lc l W F D P n S L 1048576 u (R0.out u hu) (by decide) (by decide) c0)
      have HS1 := hide (fun u (hu : Below w.heap.size w u) => szStore_fits sa' sc' wa' wc' fa' fc' ca' cc' ga' gc' la' lc' l' W' F' D' P' n' S' L' (1048576 - szT l W F P n S L) u (R1.out u hu) (by omega) (by omega) c1)
      have HT0 := hide (fun u (hu : Below w.heap.size w u) => toStore_any sa sc wa wc fa fc ca cc ga gc la lc l W F D P n S L u (R0.out u hu) HF0.out)
      have HT1 := hide (fun u (hu : Below w.heap.size w u) => toStore_any sa' sc' wa' wc' fa' fc' ca' cc' ga' gc' la' lc' l' W' F' D' P' n' S' L' u (R1.out u hu) HF1.out)
      have n0 : ¬ (1048576 : Int) - szT l W F P n S L < 0 := by omega
      have n1 : ¬ (1048576 : Int) - szT l W F P n S L - szT l' W' F' P' n' S' L' < 0 := by omega
      clear i0 i1 mp0 mp1 c0 c1 t0 t1 R0 R1
      generalize szT l W F P n S L = T0 at *
      generalize szT l' W' F' P' n' S' L' = T1 at *
      go_enter Try.func3, Try.ntmps3
      obtain ⟨p0, p1, p2, p3, p4, p5⟩ := X1.out
      obtain ⟨q0, q1, q2, q3, q4, q5⟩ := X2.out
      go_wp2_with fail
      clear p0 p1 p2 p3 p4 p5 q0 q1 q2 q3 q4 q5
      generalize (w.alloc (.cells #[.slice sa l.length sc, .slice wa W.length wc, .slice fa F.length fc, .slice ca n cc, .slice ga S.length gc, .slice la L.length lc] 32)).alloc (.cells #[.slice sa' l'.length sc', .slice wa' W'.length wc', .slice fa' F'.length fc', .slice ca' n' cc', .slice ga' S'.length gc', .slice la' L'.length lc'] 32) = W0 at *
      generalize w.heap.size + 1 = q at *
      obtain ⟨p, hp⟩ : ∃ p, p = w.heap.size := ⟨_, rfl⟩
      rw [← hp] at X1 ⊢
      clear hp
      refine (HS0.out _ HB.out).mono ?_
      rintro r w1 ⟨rfl, b1⟩
      have B1 := hide (below_next HB.out b1)
      have Y1 := hide (X1.out.below b1)
      have Y2 := hide (X2.out.below b1)
      clear b1 X1 X2
      obtain ⟨q0, q1, q2, q3, q4, q5⟩ := Y2.out
      go_wp2_with fail
      clear q0 q1 q2 q3 q4 q5
      refine (HS1.out _ B1.out).mono ?_
      rintro r w2 ⟨rfl, b2⟩
      have B2 := hide (below_next B1.out b2)
      have X1 := hide (Y1.out.below b2)
      have X2 := hide (Y2.out.below b2)
      clear b2 Y1 Y2 B1 HS0 HS1
      have KC : Hid (∀ u : World, Below w2.heap.size w2 u → Six u p (.slice sa l.length sc) (.slice wa W.length wc) (.slice fa F.length fc) (.slice ca n cc) (.slice ga S.length gc) (.slice la L.length lc) ∧ Six u q (.slice sa' l'.length sc') (.slice wa' W'.length wc') (.slice fa' F'.length fc') (.slice ca' n' cc') (.slice ga' S'.length gc') (.slice la' L'.length lc')) := hide (fun u hu => ⟨X1.out.below hu, X2.out.below hu⟩)
      go_wp2_with fail
      refine wp_region_held_drew (S := fun u : World => Six u p (.slice sa l.length sc) (.slice wa W.length wc) (.slice fa F.length fc) (.slice ca n cc) (.slice ga S.length gc) (.slice la L.length lc) ∧ Six u q (.slice sa' l'.length sc') (.slice wa' W'.length wc') (.slice fa' F'.length fc') (.slice ca' n' cc') (.slice ga' S'.length gc') (.slice la' L'.length lc')) (by kernel_rfl) (KC.out _ (Below.refl _ _).drew) (fun hHeld => ?_)
      change wpAnyH _ _ _ _ _ _ (Array.replicate _ false) _ _
      refine tk 0 20 (.agg #[.slice sa l.length sc, .slice wa W.length wc, .slice fa F.length fc, .slice ca n cc, .slice ga S.length gc, .slice la L.length lc]) hHeld rfl (by kernel_rfl) (by kernel_rfl) (by kernel_rfl) (fun _ _ _ h => h) (Or.inl ⟨by rfl, ?_⟩) ?_
      · rintro w ⟨⟨q0, q1, q2, q3, q4, q5⟩, p0, p1, p2, p3, p4, p5⟩
        go_simp <;> (first | done | omega | (intro _; omega))
      try simp only [Act.put, List.setIfInBounds_toArray, List.set_cons_zero, List.set_cons_succ]
      refine tk 2 22 (.agg #[.slice sa' l'.length sc', .slice wa' W'.length wc', .slice fa' F'.length fc', .slice ca' n' cc', .slice ga' S'.length gc', .slice la' L'.length lc']) hHeld rfl (by kernel_rfl) (by kernel_rfl) (by kernel_rfl) (fun _ _ _ h => h) (Or.inl ⟨by rfl, ?_⟩) ?_
      · rintro w ⟨⟨q0, q1, q2, q3, q4, q5⟩, p0, p1, p2, p3, p4, p5⟩
        go_simp <;> (first | done | omega | (intro _; omega))
      try simp only [Act.put, List.setIfInBounds_toArray, List.set_cons_zero, List.set_cons_succ]
      refine wpAnyH_ready (rs := [1]) (by kernel_rfl) (by simp) ?_
      refine AllReadyH.cons rfl (fun K hK => ?_) AllReadyH.nil
      go_simp
      refine (HT0.out _ (below_next B2.out (Below.refl _ _).drew)).mono ?_
      rintro r w3 ⟨g1, g2, g3, g4, g5, g6, rfl, hr3, hb3⟩
      have RA := hide hr3
      have BB1 := hide ((Below.refl w2.heap.size w2).drew.trans hb3)
      clear hr3 hb3
      go_wp2_with fail
      refine hK.out _ _ (KC.out _ BB1.out) (fun hHeld => ?_)
      clear hK K
      try simp only [Act.put, List.setIfInBounds_toArray, List.set_cons_zero, List.set_cons_succ]
      refine wpAnyH_ready (rs := [3]) (by kernel_rfl) (by simp) ?_
      refine AllReadyH.cons rfl (fun K hK => ?_) AllReadyH.nil
      go_simp
      refine (HT1.out _ (below_next B2.out BB1.out)).mono ?_
      rintro r w4 ⟨k1, k2, k3, k4, k5, k6, rfl, hr4, hb4⟩
      have RB := hide hr4
      have RA2 := hide (RA.out.below hb4)
      have BB2 := hide (below_next BB1.out hb4)
      clear hr4 hb4 RA BB1
      go_wp2_with fail
      refine hK.out _ _ (KC.out _ BB2.out) (fun hHeld => ?_)
      clear hK K
      try simp only [Act.put, List.setIfInBounds_toArray, List.set_cons_zero, List.set_cons_succ]
      refine wpAnyH_ready (rs := [4]) (by kernel_rfl) (by simp) ?_
      refine AllReadyH.cons rfl (fun K hK => ?_) AllReadyH.nil
      go_simp
      refine (specSameStores_any (some ⟨g1, 0, none⟩) l.length l (some ⟨g2, 0, none⟩) W.length W (some ⟨g3, 0, none⟩) F.length F (some ⟨g4, 0, none⟩) n n D P (some ⟨g5, 0, none⟩) S.length S.length (some ⟨g6, 0, none⟩) L.length L.length (some ⟨k1, 0, none⟩) l'.length l' (some ⟨k2, 0, none⟩) W'.length W' (some ⟨k3, 0, none⟩) F'.length F' (some ⟨k4, 0, none⟩) n' n' D' P' (some ⟨k5, 0, none⟩) S'.length S'.length (some ⟨k6, 0, none⟩) L'.length L'.length w4 RA2.out.snaps RB.out.snaps RA2.out.fetch RB.out.fetch HF0.out.snaps HF1.out.snaps HF0.out.wants HF0.out.failed HF0.out.many HF0.out.bytes HF1.out.wants HF1.out.failed HF1.out.many HF1.out.bytes HU0.out HU1.out).mono ?_
      rintro r w5 ⟨z, rfl, hz, hb5⟩
      have HZ := hide hz
      have BB3 := hide (below_next BB2.out hb5)
      clear hz hb5 RA2 RB BB2
      go_wp2_with fail
      refine hK.out _ _ (KC.out _ BB3.out) (fun hHeld => ?_)
      clear hK K
      try simp only [Act.put, List.setIfInBounds_toArray, List.set_cons_zero, List.set_cons_succ]
      refine tk 5 6 (.bool z) hHeld rfl (by kernel_rfl) (by kernel_rfl) (by kernel_rfl) (fun _ _ _ h => h) (Or.inl ⟨by rfl, ?_⟩) ?_
      · rintro w ⟨⟨q0, q1, q2, q3, q4, q5⟩, p0, p1, p2, p3, p4, p5⟩
        go_simp <;> (first | done | omega | (intro _; omega))
      try simp only [Act.put, List.setIfInBounds_toArray, List.set_cons_zero, List.set_cons_succ]
      refine wpAnyH_done (by kernel_rfl) ?_ _
      have B5 := hide (below_next B2.out BB3.out)
      have Y1 := hide (X1.out.below BB3.out)
      have Y2 := hide (X2.out.below BB3.out)
      clear KC X1 X2 B2 BB3
      obtain ⟨p0, p1, p2, p3, p4, p5⟩ := Y1.out
      go_wp2_with fail
      clear p0 p1 p2 p3 p4 p5
      refine (HT0.out _ B5.out).mono ?_
      rintro r w6 ⟨a1, a2, a3, a4, a5, a6, rfl, hr6, hb6⟩
      have A6 := hide (below_alloc w6 (.cells #[.slice (some ⟨a1, 0, none⟩) l.length l.length, .slice (some ⟨a2, 0, none⟩) W.length W.length, .slice (some ⟨a3, 0, none⟩) F.length F.length, .slice (some ⟨a4, 0, none⟩) n n, .slice (some ⟨a5, 0, none⟩) S.length S.length, .slice (some ⟨a6, 0, none⟩) L.length L.length] 42))
      have XX0 := hide (Six.new w6 (.slice (some ⟨a1, 0, none⟩) l.length l.length) (.slice (some ⟨a2, 0, none⟩) W.length W.length) (.slice (some ⟨a3, 0, none⟩) F.length F.length) (.slice (some ⟨a4, 0, none⟩) n n) (.slice (some ⟨a5, 0, none⟩) S.length S.length) (.slice (some ⟨a6, 0, none⟩) L.length L.length) 42)
      have RX0 := hide (hr6.below A6.out)
      have BB := hide (below_next hb6 A6.out)
      have B6 := hide (below_next B5.out BB.out)
      have X1 := hide (Y1.out.below BB.out)
      have X2 := hide (Y2.out.below BB.out)
      clear hr6 hb6 A6 Y1 Y2 B5 BB
      obtain ⟨q0, q1, q2, q3, q4, q5⟩ := X2.out
      go_wp2_with fail
      clear q0 q1 q2 q3 q4 q5
      generalize w6.alloc (.cells #[.slice (some ⟨a1, 0, none⟩) l.length l.length, .slice (some ⟨a2, 0, none⟩) W.length W.length, .slice (some ⟨a3, 0, none⟩) F.length F.length, .slice (some ⟨a4, 0, none⟩) n n, .slice (some ⟨a5, 0, none⟩) S.length S.length, .slice (some ⟨a6, 0, none⟩) L.length L.length] 42) = W6 at *
      generalize w6.heap.size = bx at *
      refine (HT1.out _ B6.out).mono ?_
      rintro r w7 ⟨d1, d2, d3, d4, d5, d6, rfl, hr7, hb7⟩
      have A7 := hide (below_alloc w7 (.cells #[.slice (some ⟨d1, 0, none⟩) l'.length l'.length, .slice (some ⟨d2, 0, none⟩) W'.length W'.length, .slice (some ⟨d3, 0, none⟩) F'.length F'.length, .slice (some ⟨d4, 0, none⟩) n' n', .slice (some ⟨d5, 0, none⟩) S'.length S'.length, .slice (some ⟨d6, 0, none⟩) L'.length L'.length] 42))
      have YY1 := hide (Six.new w7 (.slice (some ⟨d1, 0, none⟩) l'.length l'.length) (.slice (some ⟨d2, 0, none⟩) W'.length W'.length) (.slice (some ⟨d3, 0, none⟩) F'.length F'.length) (.slice (some ⟨d4, 0, none⟩) n' n') (.slice (some ⟨d5, 0, none⟩) S'.length S'.length) (.slice (some ⟨d6, 0, none⟩) L'.length L'.length) 42)
      have RX1 := hide (hr7.below A7.out)
      have BB := hide (below_next hb7 A7.out)
      have RX0' := hide (RX0.out.below BB.out)
      have YY0 := hide (XX0.out.below BB.out)
      have B7 := hide (below_next B6.out BB.out)
      have Y1 := hide (X1.out.below BB.out)
      have Y2 := hide (X2.out.below BB.out)
      clear hr7 hb7 A7 X1 X2 B6 BB RX0 XX0
      obtain ⟨p0, p1, p2, p3, p4, p5⟩ := YY0.out
      obtain ⟨q0, q1, q2, q3, q4, q5⟩ := YY1.out
      go_wp2_with fail
      clear p0 p1 p2 p3 p4 p5 q0 q1 q2 q3 q4 q5
      generalize w7.alloc (.cells #[.slice (some ⟨d1, 0, none⟩) l'.length l'.length, .slice (some ⟨d2, 0, none⟩) W'.length W'.length, .slice (some ⟨d3, 0, none⟩) F'.length F'.length, .slice (some ⟨d4, 0, none⟩) n' n', .slice (some ⟨d5, 0, none⟩) S'.length S'.length, .slice (some ⟨d6, 0, none⟩) L'.length L'.length] 42) = W7 at *
      generalize w7.heap.size = bz at *
      refine (implSameStores_any (some ⟨a1, 0, none⟩) l.length l (some ⟨a2, 0, none⟩) W.length W (some ⟨a3, 0, none⟩) F.length F (some ⟨a4, 0, none⟩) n n D P (some ⟨a5, 0, none⟩) S.length S.length (some ⟨a6, 0, none⟩) L.length L.length (some ⟨d1, 0, none⟩) l'.length l' (some ⟨d2, 0, none⟩) W'.length W' (some ⟨d3, 0, none⟩) F'.length F' (some ⟨d4, 0, none⟩) n' n' D' P' (some ⟨d5, 0, none⟩) S'.length S'.length (some ⟨d6, 0, none⟩) L'.length L'.length W7 RX0'.out.snaps RX1.out.snaps RX0'.out.fetch RX1.out.fetch HF0.out.snaps HF1.out.snaps HF0.out.wants HF0.out.failed HF0.out.many HF0.out.bytes HF1.out.wants HF1.out.failed HF1.out.many HF1.out.bytes).mono ?_
      rintro r w8 ⟨z2, rfl, hz2, hb8⟩
      have hzz : z2 = z := by
        have h9 := HZ.out
        cases z <;> cases z2 <;> simp_all
      subst hzz
      have X0 := hide (YY0.out.below hb8)
      have X3 := hide (YY1.out.below hb8)
      have X1 := hide (Y1.out.below hb8)
      have X2 := hide (Y2.out.below hb8)
      have RX0 := hide (RX0'.out.below hb8)
      have RX1' := hide (RX1.out.below hb8)
      have B8 := hide (below_next B7.out hb8)
      clear hz2 hb8 HZ YY0 YY1 Y1 Y2 RX0' RX1 B7
      have RX1 := RX1'
      clear RX1'
      have hqz : (z2 != z2) = false := by simp
      obtain ⟨WQ, hWQ⟩ : ∃ WQ, WQ = w8 := ⟨_, rfl⟩
      subst hWQ
      have BQ := B8
      have KD : Hid (∀ u : World, Below WQ.heap.size WQ u → Six u bx (.slice (some ⟨a1, 0, none⟩) l.length l.length) (.slice (some ⟨a2, 0, none⟩) W.length W.length) (.slice (some ⟨a3, 0, none⟩) F.length F.length) (.slice (some ⟨a4, 0, none⟩) n n) (.slice (some ⟨a5, 0, none⟩) S.length S.length) (.slice (some ⟨a6, 0, none⟩) L.length L.length) ∧ Six u p (.slice sa l.length sc) (.slice wa W.length wc) (.slice fa F.length fc) (.slice ca n cc) (.slice ga S.length gc) (.slice la L.length lc)) := hide (fun u hu => ⟨X0.out.below hu, X1.out.below hu⟩)
      go_wp2_with fail
      refine wp_region_held_drew (S := fun u : World => Six u bx (.slice (some ⟨a1, 0, none⟩) l.length l.length) (.slice (some ⟨a2, 0, none⟩) W.length W.length) (.slice (some ⟨a3, 0, none⟩) F.length F.length) (.slice (some ⟨a4, 0, none⟩) n n) (.slice (some ⟨a5, 0, none⟩) S.length S.length) (.slice (some ⟨a6, 0, none⟩) L.length L.length) ∧ Six u p (.slice sa l.length sc) (.slice wa W.length wc) (.slice fa F.length fc) (.slice ca n cc) (.slice ga S.length gc) (.slice la L.length lc)) (by kernel_rfl) (KD.out _ (Below.refl _ _).drew) (fun hHeld => ?_)
      change wpAnyH _ _ _ _ _ _ (Array.replicate _ false) _ _
      refine tk 0 35 (.agg #[.slice (some ⟨a1, 0, none⟩) l.length l.length, .slice (some ⟨a2, 0, none⟩) W.length W.length, .slice (some ⟨a3, 0, none⟩) F.length F.length, .slice (some ⟨a4, 0, none⟩) n n, .slice (some ⟨a5, 0, none⟩) S.length S.length, .slice (some ⟨a6, 0, none⟩) L.length L.length]) hHeld rfl (by kernel_rfl) (by kernel_rfl) (by kernel_rfl) (fun _ _ _ h => h) (Or.inl ⟨by rfl, ?_⟩) ?_
      · rintro w ⟨⟨q0, q1, q2, q3, q4, q5⟩, p0, p1, p2, p3, p4, p5⟩
        go_simp <;> (first | done | omega | (intro _; omega))
      try simp only [Act.put, List.setIfInBounds_toArray, List.set_cons_zero, List.set_cons_succ]
      refine tk 1 36 (.agg #[.slice sa l.length sc, .slice wa W.length wc, .slice fa F.length fc, .slice ca n cc, .slice ga S.length gc, .slice la L.length lc]) hHeld rfl (by kernel_rfl) (by kernel_rfl) (by kernel_rfl) (fun _ _ _ h => h) (Or.inl ⟨by rfl, ?_⟩) ?_
      · rintro w ⟨⟨q0, q1, q2, q3, q4, q5⟩, p0, p1, p2, p3, p4, p5⟩
        go_simp <;> (first | done | omega | (intro _; omega))
      try simp only [Act.put, List.setIfInBounds_toArray, List.set_cons_zero, List.set_cons_succ]
      refine wpAnyH_ready (rs := [2]) (by kernel_rfl) (by simp) ?_
      refine AllReadyH.cons rfl (fun K hK => ?_) AllReadyH.nil
      go_simp
      refine (HT0.out _ (below_next BQ.out (Below.refl _ _).drew)).mono ?_
      rintro r w13 ⟨m1, m2, m3, m4, m5, m6, rfl, hr13, hb13⟩
      have RM := hide hr13
      have BB1 := hide ((Below.refl WQ.heap.size WQ).drew.trans hb13)
      clear hr13 hb13
      go_wp2_with fail
      refine hK.out _ _ (KD.out _ BB1.out) (fun hHeld => ?_)
      clear hK K
      try simp only [Act.put, List.setIfInBounds_toArray, List.set_cons_zero, List.set_cons_succ]
      refine wpAnyH_ready (rs := [3]) (by kernel_rfl) (by simp) ?_
      refine AllReadyH.cons rfl (fun K hK => ?_) AllReadyH.nil
      go_simp
      refine (eqStore_same _ _ _ _ _ _ _ _ _ _ _ _ _ _ _ _ _ _ _ _ _ _ _ _ l W F D P n S L _ (RX0.out.below BB1.out) RM.out HF0.out).mono ?_
      rintro r w14 ⟨rfl, hb14⟩
      have BB2 := hide (below_next BB1.out hb14)
      clear hb14 RM
      go_wp2_with fail
      refine hK.out _ _ (KD.out _ BB2.out) (fun hHeld => ?_)
      clear hK K
      try simp only [Act.put, List.setIfInBounds_toArray, List.set_cons_zero, List.set_cons_succ]
      refine tk 4 39 (.bool false) hHeld rfl (by kernel_rfl) (by kernel_rfl) (by kernel_rfl) (fun _ _ _ h => h) (Or.inl ⟨by rfl, ?_⟩) ?_
      · rintro w ⟨⟨q0, q1, q2, q3, q4, q5⟩, p0, p1, p2, p3, p4, p5⟩
        go_simp <;> (first | done | omega | (intro _; omega))
      try simp only [Act.put, List.setIfInBounds_toArray, List.set_cons_zero, List.set_cons_succ]
      refine wpAnyH_done (by kernel_rfl) ?_ _
      have X3' := hide (X3.out.below BB2.out)
      have X2' := hide (X2.out.below BB2.out)
      have RX1' := hide (RX1.out.below BB2.out)
      have B9 := hide (below_next BQ.out BB2.out)
      clear KD X0 X1 X2 X3 RX0 RX1 BQ B8 BB1 BB2
      have X3 := X3'
      have X2 := X2'
      have RX1 := RX1'
      have BQ := B9
      clear X3' X2' RX1' B9
      go_wp2_with fail
      obtain ⟨WQ, hWQ⟩ : ∃ WQ, WQ = w14 := ⟨_, rfl⟩
      subst hWQ
      have KD : Hid (∀ u : World, Below WQ.heap.size WQ u → Six u bz (.slice (some ⟨d1, 0, none⟩) l'.length l'.length) (.slice (some ⟨d2, 0, none⟩) W'.length W'.length) (.slice (some ⟨d3, 0, none⟩) F'.length F'.length) (.slice (some ⟨d4, 0, none⟩) n' n') (.slice (some ⟨d5, 0, none⟩) S'.length S'.length) (.slice (some ⟨d6, 0, none⟩) L'.length L'.length) ∧ Six u q (.slice sa' l'.length sc') (.slice wa' W'.length wc') (.slice fa' F'.length fc') (.slice ca' n' cc') (.slice ga' S'.length gc') (.slice la' L'.length lc')) := hide (fun u hu => ⟨X3.out.below hu, X2.out.below hu⟩)
      refine wp_region_held_drew (S := fun u : World => Six u bz (.slice (some ⟨d1, 0, none⟩) l'.length l'.length) (.slice (some ⟨d2, 0, none⟩) W'.length W'.length) (.slice (some ⟨d3, 0, none⟩) F'.length F'.length) (.slice (some ⟨d4, 0, none⟩) n' n') (.slice (some ⟨d5, 0, none⟩) S'.length S'.length) (.slice (some ⟨d6, 0, none⟩) L'.length L'.length) ∧ Six u q (.slice sa' l'.length sc') (.slice wa' W'.length wc') (.slice fa' F'.length fc') (.slice ca' n' cc') (.slice ga' S'.length gc') (.slice la' L'.length lc')) (by kernel_rfl) (KD.out _ (Below.refl _ _).drew) (fun hHeld => ?_)
      change wpAnyH _ _ _ _ _ _ (Array.replicate _ false) _ _
      refine tk 0 40 (.agg #[.slice (some ⟨d1, 0, none⟩) l'.length l'.length, .slice (some ⟨d2, 0, none⟩) W'.length W'.length, .slice (some ⟨d3, 0, none⟩) F'.length F'.length, .slice (some ⟨d4, 0, none⟩) n' n', .slice (some ⟨d5, 0, none⟩) S'.length S'.length, .slice (some ⟨d6, 0, none⟩) L'.length L'.length]) hHeld rfl (by kernel_rfl) (by kernel_rfl) (by kernel_rfl) (fun _ _ _ h => h) (Or.inl ⟨by rfl, ?_⟩) ?_
      · rintro w ⟨⟨q0, q1, q2, q3, q4, q5⟩, p0, p1, p2, p3, p4, p5⟩
        go_simp <;> (first | done | omega | (intro _; omega))
      try simp only [Act.put, List.setIfInBounds_toArray, List.set_cons_zero, List.set_cons_succ]
      refine tk 1 41 (.agg #[.slice sa' l'.length sc', .slice wa' W'.length wc', .slice fa' F'.length fc', .slice ca' n' cc', .slice ga' S'.length gc', .slice la' L'.length lc']) hHeld rfl (by kernel_rfl) (by kernel_rfl) (by kernel_rfl) (fun _ _ _ h => h) (Or.inl ⟨by rfl, ?_⟩) ?_
      · rintro w ⟨⟨q0, q1, q2, q3, q4, q5⟩, p0, p1, p2, p3, p4, p5⟩
        go_simp <;> (first | done | omega | (intro _; omega))
      try simp only [Act.put, List.setIfInBounds_toArray, List.set_cons_zero, List.set_cons_succ]
      refine wpAnyH_ready (rs := [2]) (by kernel_rfl) (by simp) ?_
      refine AllReadyH.cons rfl (fun K hK => ?_) AllReadyH.nil
      go_simp
      refine (HT1.out _ (below_next BQ.out (Below.refl _ _).drew)).mono ?_
      rintro r w13 ⟨m1, m2, m3, m4, m5, m6, rfl, hr13, hb13⟩
      have RM := hide hr13
      have BB1 := hide ((Below.refl WQ.heap.size WQ).drew.trans hb13)
      clear hr13 hb13
      go_wp2_with fail
      refine hK.out _ _ (KD.out _ BB1.out) (fun hHeld => ?_)
      clear hK K
      try simp only [Act.put, List.setIfInBounds_toArray, List.set_cons_zero, List.set_cons_succ]
      refine wpAnyH_ready (rs := [3]) (by kernel_rfl) (by simp) ?_
      refine AllReadyH.cons rfl (fun K hK => ?_) AllReadyH.nil
      go_simp
      refine (eqStore_same _ _ _ _ _ _ _ _ _ _ _ _ _ _ _ _ _ _ _ _ _ _ _ _ l' W' F' D' P' n' S' L' _ (RX1.out.below BB1.out) RM.out HF1.out).mono ?_
      rintro r w14 ⟨rfl, hb14⟩
      have BB2 := hide (below_next BB1.out hb14)
      clear hb14 RM
      go_wp2_with fail
      refine hK.out _ _ (KD.out _ BB2.out) (fun hHeld => ?_)
      clear hK K
      try simp only [Act.put, List.setIfInBounds_toArray, List.set_cons_zero, List.set_cons_succ]
      refine tk 4 44 (.bool false) hHeld rfl (by kernel_rfl) (by kernel_rfl) (by kernel_rfl) (fun _ _ _ h => h) (Or.inl ⟨by rfl, ?_⟩) ?_
      · rintro w ⟨⟨q0, q1, q2, q3, q4, q5⟩, p0, p1, p2, p3, p4, p5⟩
        go_simp <;> (first | done | omega | (intro _; omega))
      try simp only [Act.put, List.setIfInBounds_toArray, List.set_cons_zero, List.set_cons_succ]
      refine wpAnyH_done (by kernel_rfl) ?_ _
      have B9 := hide (below_next BQ.out BB2.out)
      clear KD X2 X3 RX1
      go_wp2_with fail
      go_ret
      exact ⟨rfl, B9.out⟩
    · have HS0 := hide (fun u (hu : Below w.heap.size w u) => szStore_fits sa sc wa wc fa fc ca cc ga gc la lc l W F D P n S L 1048576 u (R0.out u hu) (by decide) (by decide) c0)
      have HS1 := hide (fun u (hu : Below w.heap.size w u) => szStore_not sa' sc' wa' wc' fa' fc' ca' cc' ga' gc' la' lc' l' W' F' D' P' n' S' L' (1048576 - szT l W F P n S L) u (R1.out u hu) (by omega) (by omega) i1.ll i1.ls i1.wl i1.fl i1.nl mp1 i1.sl i1.lo (by omega))
      have n0 : ¬ (1048576 : Int) - szT l W F P n S L < 0 := by omega
      clear i0 i1 mp0 mp1 c0 c1 t0 t1 R0 R1
      generalize szT l W F P n S L = T0 at *
      go_enter Try.func3, Try.ntmps3
      obtain ⟨p0, p1, p2, p3, p4, p5⟩ := X1.out
      obtain ⟨q0, q1, q2, q3, q4, q5⟩ := X2.out
      go_wp2_with fail
      clear p0 p1 p2 p3 p4 p5 q0 q1 q2 q3 q4 q5
      generalize (w.alloc (.cells #[.slice sa l.length sc, .slice wa W.length wc, .slice fa F.length fc, .slice ca n cc, .slice ga S.length gc, .slice la L.length lc] 32)).alloc (.cells #[.slice sa' l'.length sc', .slice wa' W'.length wc', .slice fa' F'.length fc', .slice ca' n' cc', .slice ga' S'.length gc', .slice la' L'.length lc'] 32) = W0 at *
      refine (HS0.out _ HB.out).mono ?_
      rintro r w1 ⟨rfl, b1⟩
      have B1 := hide (below_next HB.out b1)
      have Y2 := hide (X2.out.below b1)
      clear b1 X1 X2
      obtain ⟨q0, q1, q2, q3, q4, q5⟩ := Y2.out
      go_wp2_with fail
      clear q0 q1 q2 q3 q4 q5
      refine (HS1.out _ B1.out).mono ?_
      rintro r w2 ⟨rfl, b2⟩
      have B2 := hide (below_next B1.out b2)
      clear b2
      go_wp2_with fail
      go_ret
      exact ⟨rfl, B2.out⟩
  · have HS0 := hide (fun u (hu : Below w.heap.size w u) => szStore_not sa sc wa wc fa fc ca cc ga gc la lc l W F D P n S L 1048576 u (R0.out u hu) (by decide) (by decide) i0.ll i0.ls i0.wl i0.fl i0.nl mp0 i0.sl i0.lo (by omega))
    clear i0 i1 mp0 mp1 c0 t0 t1 R0 R1
    go_enter Try.func3, Try.ntmps3
    obtain ⟨p0, p1, p2, p3, p4, p5⟩ := X1.out
    go_wp2_with fail
    clear p0 p1 p2 p3 p4 p5
    generalize (w.alloc (.cells #[.slice sa l.length sc, .slice wa W.length wc, .slice fa F.length fc, .slice ca n cc, .slice ga S.length gc, .slice la L.length lc] 32)).alloc (.cells #[.slice sa' l'.length sc', .slice wa' W'.length wc', .slice fa' F'.length fc', .slice ca' n' cc', .slice ga' S'.length gc', .slice la' L'.length lc'] 32) = W0 at *
    refine (HS0.out _ HB.out).mono ?_
    rintro r w1 ⟨rfl, b1⟩
    have B1 := hide (below_next HB.out b1)
    clear b1
    go_wp2_with fail
    go_ret
    exact ⟨rfl, B1.out⟩
set_option maxRecDepth 100000 in
set_option maxHeartbeats 800000 in
theorem lifted (os : Os) (started : os.Started) (H : Type) (enc : TypeId × Value → H) :
    ReturnsInHanded {} Try.checked os 3 .any (Rows.fnExactSameStoresSpec.pre6 enc Try.prog Try.f3 Rows.fnExactSameStoresRow.domain false) (Rows.fnExactSameStoresSpec.post enc Try.prog Try.f3 false true false false) := by
  refine returnsInHanded_of_change (C := Try.checked) own started (by kernel_rfl) Try.func3
    (ChangeSpec.witness6 (enc := enc) (C := Try.checked) false ⟨#[], #[.agg #[.slice none 0 0, .slice none 0 0, .slice none 0 0, .slice none 0 0, .slice none 0 0, .slice none 0 0], .agg #[.slice none 0 0, .slice none 0 0, .slice none 0 0, .slice none 0 0, .slice none 0 0, .slice none 0 0]], []⟩ 8 (by kernel_rfl) (by kernel_rfl) (by kernel_rfl) (by kernel_rfl)) ?_
  intro W base args ds gs before hval0 hW hcnd _
  have hval : ∀ (j : Nat) t v, Try.f3.params[j]? = some t → args[j]? = some v → Value.okWide Try.prog W .any base t v := hval0
  have hW' := hW
  obtain ⟨p, q, hA0, hV, rfl, hfz, hnd⟩ := hW
  have hA : DataW.TrodAll enc Try.prog W 0 (fun _ => true) true Try.f3.params.toList args.toList ds p := hA0
  rw [Try.params3] at hA hval
  obtain ⟨v0, vs0, d0, ds0, p0, q0, hargs0, rfl, rfl, h0, r0⟩ := trodAll_cons hA
  obtain ⟨v1, vs1, d1, ds1, p1, q1, hargs1, rfl, rfl, h1, r1⟩ := trodAll_cons r0
  obtain ⟨rfl, rfl, rfl⟩ := trodAll_nil r1
  obtain rfl : args = #[v0, v1] := by cases args; simp_all
  obtain ⟨rfl, rfl⟩ := trodVars_none hV
  obtain ⟨cs0, rfl, -⟩ := okWide_struct Try.underlying32 (hval 0 32 v0 rfl rfl)
  have k0 := h0
  have lt0 : ∀ x ∈ p0, x.block < W.heap.size := by obtain ⟨m, hm⟩ := k0; exact DataW.trod_lt m _ _ _ hm
  obtain ⟨fuel0, hf0⟩ := h0
  obtain ⟨sa0, sc0, wa0, wc0, fa0, fc0, ca0, cc0, ga0, gc0, la0, lc0, l0, Ws0, F0, D0, P0, n0, S0, L0, hcs0, in0⟩ := store_of_trod (by simpa [Value.cells] using hf0)
  obtain rfl : cs0 = #[.slice sa0 l0.length sc0, .slice wa0 Ws0.length wc0, .slice fa0 F0.length fc0, .slice ca0 n0 cc0, .slice ga0 S0.length gc0, .slice la0 L0.length lc0] := by cases cs0; simp_all
  obtain ⟨cs1, rfl, -⟩ := okWide_struct Try.underlying32 (hval 1 32 v1 rfl rfl)
  have k1 := h1
  have lt1 : ∀ x ∈ p1, x.block < W.heap.size := by obtain ⟨m, hm⟩ := k1; exact DataW.trod_lt m _ _ _ hm
  obtain ⟨fuel1, hf1⟩ := h1
  obtain ⟨sa1, sc1, wa1, wc1, fa1, fc1, ca1, cc1, ga1, gc1, la1, lc1, l1, Ws1, F1, D1, P1, n1, S1, L1, hcs1, in1⟩ := store_of_trod (by simpa [Value.cells] using hf1)
  obtain rfl : cs1 = #[.slice sa1 l1.length sc1, .slice wa1 Ws1.length wc1, .slice fa1 F1.length fc1, .slice ca1 n1 cc1, .slice ga1 S1.length gc1, .slice la1 L1.length lc1] := by cases cs1; simp_all
  clear hA0 hval0
  refine (walk W sa0 sc0 wa0 wc0 fa0 fc0 ca0 cc0 ga0 gc0 la0 lc0 l0 Ws0 F0 D0 P0 n0 S0 L0 in0 sa1 sc1 wa1 wc1 fa1 fc1 ca1 cc1 ga1 gc1 la1 lc1 l1 Ws1 F1 D1 P1 n1 S1 L1 in1).mono fun e W' ⟨he, bel⟩ => ?_
  subst he
  exact ⟨_, rfl, _, _, _, [], _, [], hW', trodAll_mk1 (shut_bool Try.underlying4 _), (trodAll_cons_mk (Below.trod laidOut (by kernel_rfl) (of_decide_eq_true (by kernel_rfl)) k0 bel lt0) (trodAll_cons_mk (Below.trod laidOut (by kernel_rfl) (of_decide_eq_true (by kernel_rfl)) k1 bel lt1) trodAll_mk0)), rfl, bel.frame _, fun h => by cases h⟩

theorem over : Rows.fnExactSameStoresRow.holds Try.pinned (OpenSpec.ofChange Rows.fnExactSameStoresSpec) :=
  OpenClaim.holds_of_wide 3 Try.f3 rfl rfl rfl rfl rfl rfl rfl ⟨rfl, rfl, rfl, rfl, rfl⟩ rfl rfl rfl rfl rfl (by kernel_rfl) Try.func3 (by kernel_rfl)
    (of_decide_eq_true (by kernel_rfl)) (by unfold Func.isWrapper; first | (rw [if_pos (by decide +kernel)]; kernel_rfl) | (rw [if_neg (by decide +kernel)]; exact ⟨rfl, rfl⟩))
    (fun os started H enc _ => lifted os started H enc)
end Go.Proofs.Ytfamojijgjmcmaa.sameStores
namespace Go.Proofs.Ytfamojijgjmcmaa
theorem fnExactSameStores_holds : Rows.FnExactSameStoresSaid := sameStores.over
#print axioms fnExactSameStores_holds
end Go.Proofs.Ytfamojijgjmcmaa

