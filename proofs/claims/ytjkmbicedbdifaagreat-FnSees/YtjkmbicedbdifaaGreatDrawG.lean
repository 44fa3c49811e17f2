/-
  The model's draws of an entry, right or bent.
-/
import Derived.Test.YtjkmbicedbdifaaGreatDrawE
import Derived.Test.YtjkmbicedbdifaaGreatJ3
namespace Go.Proofs.YtjkmbicedbdifaaGreat
open Go.RowKit Go.Maps
set_option linter.unusedVariables false
attribute [local go_sem ↓] Go.wp_at_zero Go.wp_at_succ

theorem Box4.kept {S : Nat → Prop} {w w' : World} {b : Nat} {u0 u1 u2 u3 : Value} (h : Box4 w b u0 u1 u2 u3) (hk : Kept S w w') (hn : ¬ S b) : Box4 w' b u0 u1 u2 u3 :=
  ⟨⟨(hk.cell (p := ⟨b, 0, none⟩) h.1.lt hn).trans h.1.1, (hk.cell (p := ⟨b, 1, none⟩) h.1.lt hn).trans h.1.2.1, (hk.cell (p := ⟨b, 2, none⟩) h.1.lt hn).trans h.1.2.2.1, (hk.cell (p := ⟨b, 3, none⟩) h.1.lt hn).trans h.1.2.2.2⟩, fun i => (hk.frozen (p := ⟨b, i, none⟩) h.1.lt hn).trans (h.2 i)⟩
set_option maxRecDepth 100000 in
set_option maxHeartbeats 3200000 in
theorem drawEntry_e (p : Nat) (zs : List Int) (T : Int) (w : World) (h : SrcX w p zs T) (hu : U8 zs) (hT : T ≤ 700000) (hl : zs.length ≤ 2097152) :
    Calls Tryz.prog 91 #[.pointer (some ⟨p, 0, none⟩)] w (DrawnE w p zs (T + 30) (fun e => entFault e = 0 ∧ e.path.length ≤ 9)) := by
  have hp := h.lt
  have X0 := hide (Box4.new w (.string ⟨#[]⟩) (.int .i64 0) (.int .i64 0) (.slice none 0 0) 40)
  have S0 := hide (h.below (below_alloc w (.cells #[.string ⟨#[]⟩, .int .i64 0, .int .i64 0, .slice none 0 0] 40)))
  have K0 := hide ((Kept.refl (fun b => b = p) w).alloc (.cells #[.string ⟨#[]⟩, .int .i64 0, .int .i64 0, .slice none 0 0] 40))
  have HU := hide hu
  clear h hu
  go_enter Tryz.func91, Tryz.ntmps91
  go_wp2_with fail
  refine (path_e p zs T _ S0.out HU.out (by omega) hl).mono ?_
  rintro r w1 ⟨x, rfl, hf, hxl, s1, k1⟩
  have S1 := hide s1
  have K1 := hide (K0.out.trans k1)
  have X1 := hide (X0.out.kept k1 (by omega))
  have HF := hide hf
  clear s1 k1 hf X0 S0 K0
  go_wp2_with fail
  refine (next_e p zs _ 7 _ S1.out HU.out (by omega) (by decide) (by decide) hl).mono ?_
  rintro r w2 ⟨i, rfl, hi, s2, k2⟩
  have S2 := hide s2
  have K2 := hide (K1.out.trans k2)
  have X2 := hide (X1.out.kept k2 (by omega))
  have hw2 : w.heap.size < w2.heap.size := X2.out.1.lt
  clear s2 k2 S1 K1 X1
  by_cases h0 : i = 0
  · subst h0
    · obtain ⟨⟨q0, q1, q2, q3⟩, qf⟩ := X2.out
      have qf0 := qf 0
      have qf1 := qf 1
      have qf2 := qf 2
      have qf3 := qf 3
      go_wp2_with fail
      have hk : Kept (fun b => b = w.heap.size) w2 ((((w2.setCell ⟨w.heap.size, 0, none⟩ (.string (str x))).setCell ⟨w.heap.size, 1, none⟩ (.int .i64 3)).setCell ⟨w.heap.size, 2, none⟩ (.int .i64 0)).setCell ⟨w.heap.size, 3, none⟩ (.slice none 0 0)) := Kept.setCell (S := fun b => b = w.heap.size) (p := ⟨w.heap.size, 3, none⟩) (Kept.setCell (S := fun b => b = w.heap.size) (p := ⟨w.heap.size, 2, none⟩) (Kept.two _ _ _ _ _ _) (fun _ => rfl) _) (fun _ => rfl) _
      exact bodyPost_ret (v := .agg #[.string (str x), .int .i64 3, .int .i64 0, .slice none 0 0]) (by simp [results, Tryz.results91, go_sem, q0, q1, q2, q3]) rfl ⟨⟨x, 3, 0, []⟩, none, 0, rfl, ⟨bare_right HF.out (by decide), hxl⟩, World.ownsRow_nil _ _ _ _, (S2.out.kept hk (fun b hb e => by omega)).mono (by omega), K2.out.trans_own hk (fun b hb e => by omega)⟩
  · by_cases h1 : i = 1
    · subst h1
      obtain ⟨⟨q0, q1, q2, q3⟩, qf⟩ := X2.out
      have qf0 := qf 0
      have qf1 := qf 1
      have qf2 := qf 2
      have qf3 := qf 3
      go_wp2_with fail
      have hk : Kept (fun b => b = w.heap.size) w2 ((((w2.setCell ⟨w.heap.size, 0, none⟩ (.string (str x))).setCell ⟨w.heap.size, 1, none⟩ (.int .i64 4)).setCell ⟨w.heap.size, 2, none⟩ (.int .i64 0)).setCell ⟨w.heap.size, 3, none⟩ (.slice none 0 0)) := Kept.setCell (S := fun b => b = w.heap.size) (p := ⟨w.heap.size, 3, none⟩) (Kept.setCell (S := fun b => b = w.heap.size) (p := ⟨w.heap.size, 2, none⟩) (Kept.two _ _ _ _ _ _) (fun _ => rfl) _) (fun _ => rfl) _
      exact bodyPost_ret (v := .agg #[.string (str x), .int .i64 4, .int .i64 0, .slice none 0 0]) (by simp [results, Tryz.results91, go_sem, q0, q1, q2, q3]) rfl ⟨⟨x, 4, 0, []⟩, none, 0, rfl, ⟨bare_right HF.out (by decide), hxl⟩, World.ownsRow_nil _ _ _ _, (S2.out.kept hk (fun b hb e => by omega)).mono (by omega), K2.out.trans_own hk (fun b hb e => by omega)⟩
    · by_cases h2 : i = 2 ∨ i = 3
      · rcases h2 with rfl | rfl
        · obtain ⟨⟨q0, q1, q2, q3⟩, qf⟩ := X2.out
          have qf0 := qf 0
          have qf1 := qf 1
          have qf2 := qf 2
          have qf3 := qf 3
          go_wp2_with fail
          have hk : Kept (fun b => b = w.heap.size) w2 ((((w2.setCell ⟨w.heap.size, 0, none⟩ (.string (str x))).setCell ⟨w.heap.size, 1, none⟩ (.int .i64 2)).setCell ⟨w.heap.size, 2, none⟩ (.int .i64 0)).setCell ⟨w.heap.size, 3, none⟩ (.slice none 0 0)) := Kept.setCell (S := fun b => b = w.heap.size) (p := ⟨w.heap.size, 3, none⟩) (Kept.setCell (S := fun b => b = w.heap.size) (p := ⟨w.heap.size, 2, none⟩) (Kept.two _ _ _ _ _ _) (fun _ => rfl) _) (fun _ => rfl) _
          exact bodyPost_ret (v := .agg #[.string (str x), .int .i64 2, .int .i64 0, .slice none 0 0]) (by simp [results, Tryz.results91, go_sem, q0, q1, q2, q3]) rfl ⟨⟨x, 2, 0, []⟩, none, 0, rfl, ⟨bare_right HF.out (by decide), hxl⟩, World.ownsRow_nil _ _ _ _, (S2.out.kept hk (fun b hb e => by omega)).mono (by omega), K2.out.trans_own hk (fun b hb e => by omega)⟩
        · obtain ⟨⟨q0, q1, q2, q3⟩, qf⟩ := X2.out
          have qf0 := qf 0
          have qf1 := qf 1
          have qf2 := qf 2
          have qf3 := qf 3
          go_wp2_with fail
          have hk : Kept (fun b => b = w.heap.size) w2 ((((w2.setCell ⟨w.heap.size, 0, none⟩ (.string (str x))).setCell ⟨w.heap.size, 1, none⟩ (.int .i64 2)).setCell ⟨w.heap.size, 2, none⟩ (.int .i64 0)).setCell ⟨w.heap.size, 3, none⟩ (.slice none 0 0)) := Kept.setCell (S := fun b => b = w.heap.size) (p := ⟨w.heap.size, 3, none⟩) (Kept.setCell (S := fun b => b = w.heap.size) (p := ⟨w.heap.size, 2, none⟩) (Kept.two _ _ _ _ _ _) (fun _ => rfl) _) (fun _ => rfl) _
          exact bodyPost_ret (v := .agg #[.string (str x), .int .i64 2, .int .i64 0, .slice none 0 0]) (by simp [results, Tryz.results91, go_sem, q0, q1, q2, q3]) rfl ⟨⟨x, 2, 0, []⟩, none, 0, rfl, ⟨bare_right HF.out (by decide), hxl⟩, World.ownsRow_nil _ _ _ _, (S2.out.kept hk (fun b hb e => by omega)).mono (by omega), K2.out.trans_own hk (fun b hb e => by omega)⟩
      · have e0 : ((i : Int) == 0) = false := by simp; omega
        have e1 : ((i : Int) == 1) = false := by simp; omega
        have e2 : ((i : Int) == 2) = false := by simp; omega
        have e3 : ((i : Int) == 3) = false := by simp; omega
        clear h0 h1 h2
        go_wp2_with fail
        refine (next_e p zs _ 14 _ S2.out HU.out (by omega) (by decide) (by decide) hl).mono ?_
        rintro r w3 ⟨j, rfl, hj, s3, k3⟩
        have S3 := hide s3
        have K3 := hide (K2.out.trans k3)
        have X3 := hide (X2.out.kept k3 (by omega))
        clear s3 k3 S2 K2 X2
        go_wp2_with fail
        refine (some_e p j zs _ _ S3.out HU.out (by omega) hl (by omega)).mono ?_
        rintro r w4 ⟨da, dc, ds, rfl, hdl, hdu, ho4, s4, k4⟩
        subst hdl
        have RD := hide (ownInts_reads ho4 rfl)
        have hcap := ownsRow_cap ho4
        have S4 := hide s4
        have K4 := hide (K3.out.trans k4)
        have X4 := hide (X3.out.kept k4 (by omega))
        have DU := hide hdu
        clear s4 k4 S3 K3 X3 ho4 hdu
        go_wp2_with fail
        refine (l4File_any x da dc ds _ RD.out DU.out hcap (by omega)).mono ?_
        rintro r w5 ⟨av, cv, rfl, ho5, hb5⟩
        have hls := digs_len ds
        have S5 := hide (S4.out.below hb5)
        have K5 := hide (K4.out.trans (Kept.of_below hb5))
        obtain ⟨⟨q0, q1, q2, q3⟩, qf⟩ := X4.out.below hb5
        have qf0 := qf 0
        have qf1 := qf 1
        have qf2 := qf 2
        have qf3 := qf 3
        have O5 := hide ho5
        have hw4 : w.heap.size < w4.heap.size := X4.out.1.lt
        clear ho5 hb5 S4 K4 X4 qf
        go_wp2_with fail
        have hk : Kept (fun b => b = w.heap.size) w5 ((((w5.setCell ⟨w.heap.size, 0, none⟩ (.string (str x))).setCell ⟨w.heap.size, 1, none⟩ (.int .i64 1)).setCell ⟨w.heap.size, 2, none⟩ (.int .i64 ds.length)).setCell ⟨w.heap.size, 3, none⟩ (.slice av (cut ds).length cv)) := Kept.setCell (S := fun b => b = w.heap.size) (p := ⟨w.heap.size, 3, none⟩) (Kept.setCell (S := fun b => b = w.heap.size) (p := ⟨w.heap.size, 2, none⟩) (Kept.two _ _ _ _ _ _) (fun _ => rfl) _) (fun _ => rfl) _
        refine bodyPost_ret (v := .agg #[.string (str x), .int .i64 1, .int .i64 ds.length, .slice av (cut ds).length cv]) (by simp [results, Tryz.results91, go_sem, q0, q1, q2, q3]) rfl ⟨fileE x ds, av, cv, by rw [show (fileE x ds).chunks.length = (cut ds).length from hls]; rfl, ⟨file_right HF.out (by omega), hxl⟩, ?_, (S5.out.kept hk (fun b hb e => by omega)).mono (by omega), K5.out.trans_own hk (fun b hb e => by omega)⟩
        rw [show (fileE x ds).chunks.length = (cut ds).length from hls]
        exact ownsRow_mono (ownsRow_kept O5.out hk (fun b hb hS => by have := (O5.out.lt b hb).1; omega)) (by omega)

end Go.Proofs.YtjkmbicedbdifaaGreat
