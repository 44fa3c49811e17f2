/-
  The model's draws of a bent entry.
-/
import Derived.Deep.RegionLaw
import Derived.Test.YtjkmbicedbdifaaGreatDrawG
import Derived.Test.YtjkmbicedbdifaaGreatJ3
import Derived.Deep.RegionWith
namespace Go.Proofs.YtjkmbicedbdifaaGreat
open Go.RowKit Go.Maps
set_option linter.unusedVariables false
attribute [local go_sem ↓] Go.wp_at_zero Go.wp_at_succ

theorem cells3e (w : World) (a b c : Int) (t : TypeId) : ∀ i, i < 3 → (w.alloc (.cells #[.int .i64 a, .int .i64 b, .int .i64 c] t)).cell? ⟨w.heap.size, i, none⟩ = some (.int .i64 ([a, b, c].getD i 0)) := by
  intro i hi
  match i, hi with
  | 0, _ | 1, _ | 2, _ => simp
theorem cells2e (w : World) (a b : Int) (t : TypeId) : ∀ i, i < 2 → (w.alloc (.cells #[.int .i64 a, .int .i64 b] t)).cell? ⟨w.heap.size, i, none⟩ = some (.int .i64 ([a, b].getD i 0)) := by
  intro i hi
  match i, hi with
  | 0, _ | 1, _ => simp
theorem news_one {w : World} {H : Nat} {u : Value} {t : TypeId} (hH : w.heap.size = H) : ∀ j x, [u][j]? = some x → (w.alloc (.cells #[u] t)).cell? ((⟨H, 0, none⟩ : Addr).add j) = some x := by
  subst hH
  intro j x hj
  rw [add_addr, Nat.zero_add, cell_of_row _ w.heap.size j #[u] t (0, 0) (heap_alloc_new w _)]
  simpa using hj
set_option maxRecDepth 100000 in
set_option maxHeartbeats 6400000 in
theorem bentEntry_e (p : Nat) (zs : List Int) (T : Int) (w : World) (h : SrcX w p zs T) (hu : U8 zs) (hT : T ≤ 600000) (hl : zs.length ≤ 2097152) :
    Calls Tryz.prog 96 #[.pointer (some ⟨p, 0, none⟩)] w (DrawnE w p zs (T + 40) (fun e => e.path.length ≤ 9 ∧ e.chunks.length ≤ 4)) := by
  obtain ⟨i0, hi0, hz0, hz1, hz2⟩ := info_parts Tryz.infoI64
  have hp := h.lt
  have X0 := hide (Box4.new w (.string ⟨#[]⟩) (.int .i64 0) (.int .i64 0) (.slice none 0 0) 40)
  have S0 := hide (h.below (below_alloc w (.cells #[.string ⟨#[]⟩, .int .i64 0, .int .i64 0, .slice none 0 0] 40)))
  have K0 := hide ((Kept.refl (fun b => b = p) w).alloc (.cells #[.string ⟨#[]⟩, .int .i64 0, .int .i64 0, .slice none 0 0] 40))
  have HU := hide hu
  have hsw : (w.alloc (.cells #[.string ⟨#[]⟩, .int .i64 0, .int .i64 0, .slice none 0 0] 40)).heap.size = w.heap.size + 1 := by simp
  clear h hu
  go_enter Tryz.func96, Tryz.ntmps96
  go_wp2_with fail
  refine (drawEntry_e p zs T _ S0.out HU.out (by omega) hl).mono ?_
  rintro r w1 ⟨e, a, c, rfl, ⟨hef, hxl⟩, ho1, s1, k1⟩
  rw [hsw] at ho1
  have hc5 : e.chunks.length ≤ 3 := entFault_chunks hef
  have hc3 : e.chunks.length ≤ 4 := by omega
  have hw1 : w.heap.size < w1.heap.size := by have := k1.size; omega
  have AE := hide (below_alloc w1 (.cells #[.string (str e.path), .int .i64 e.kind, .int .i64 e.size, .slice a e.chunks.length c] 40))
  have S1 := hide (s1.below AE.out)
  have K1 := hide ((K0.out.trans k1).alloc (.cells #[.string (str e.path), .int .i64 e.kind, .int .i64 e.size, .slice a e.chunks.length c] 40))
  have X1 := hide ((X0.out.kept k1 (by omega)).below AE.out)
  have E1 := hide (Box4.new w1 (.string (str e.path)) (.int .i64 e.kind) (.int .i64 e.size) (.slice a e.chunks.length c) 40)
  have O1 := hide (ownsRow_below ho1 AE.out)
  have OL := hide (fun b hb => ho1.lt b hb)
  clear s1 k1 hef X0 S0 K0 ho1 hsw AE
  go_wp2_with fail
  generalize w1.alloc (.cells #[.string (str e.path), .int .i64 e.kind, .int .i64 e.size, .slice a e.chunks.length c] 40) = W1 at *
  obtain ⟨b1, hb1⟩ : ∃ b1, b1 = w1.heap.size := ⟨_, rfl⟩
  rw [← hb1] at E1 OL hw1 ⊢
  clear hb1
  refine (next_e p zs _ 12 _ S1.out HU.out (by omega) (by decide) (by decide) hl).mono ?_
  rintro r w2 ⟨i, rfl, hi, s2, k2⟩
  have S2 := hide s2
  have K2 := hide (K1.out.trans k2)
  have E2 := hide (E1.out.kept k2 (by omega))
  have X2 := hide (X1.out.kept k2 (by omega))
  have O2 := hide (ownsRow_kept O1.out k2 (fun b hb e => by have := O1.out.lt b hb; omega))
  clear s2 k2 S1 K1 X1 O1 E1
  by_cases h0 : i = 0
  · subst h0
    · go_wp2_with fail
      refine (bent_e p zs _ _ S2.out HU.out (by omega) hl).mono ?_
      rintro r w3 ⟨y, rfl, hyl, s3, k3⟩
      have K2' := K2
      have E2' := E2
      have X2' := X2
      have O2' := O2
      have S3 := hide s3
      have K3 := hide (K2'.out.trans k3)
      have E3 := hide (E2'.out.kept k3 (by omega))
      have X3 := hide (X2'.out.kept k3 (by omega))
      have O3 := hide (ownsRow_kept O2'.out k3 (fun b hb e => by have := O2'.out.lt b hb; omega))
      clear s3 k3
      obtain ⟨⟨p0, p1, p2, p3⟩, pf⟩ := E3.out
      obtain ⟨⟨q0, q1, q2, q3⟩, qf⟩ := X3.out
      have pf0 := pf 0
      have pf1 := pf 1
      have pf2 := pf 2
      have pf3 := pf 3
      have qf0 := qf 0
      have qf1 := qf 1
      have qf2 := qf 2
      have qf3 := qf 3
      have hlt3 : b1 < w3.heap.size := World.block_lt_of_cell? _ _ p0
      clear pf qf
      go_wp2_with fail
      have hk : Kept (fun b => b = b1 ∨ b = w.heap.size) w3 (((((w3.setCell ⟨b1, 0, none⟩ (.string (str y))).setCell ⟨w.heap.size, 0, none⟩ (.string (str y))).setCell ⟨w.heap.size, 1, none⟩ (.int .i64 e.kind)).setCell ⟨w.heap.size, 2, none⟩ (.int .i64 e.size)).setCell ⟨w.heap.size, 3, none⟩ (.slice a e.chunks.length c)) := Kept.setCell (S := fun b => b = b1 ∨ b = w.heap.size) (p := ⟨w.heap.size, 3, none⟩) (Kept.setCell (S := fun b => b = b1 ∨ b = w.heap.size) (p := ⟨w.heap.size, 2, none⟩) (Kept.setCell (S := fun b => b = b1 ∨ b = w.heap.size) (p := ⟨w.heap.size, 1, none⟩) (Kept.setCell (S := fun b => b = b1 ∨ b = w.heap.size) (p := ⟨w.heap.size, 0, none⟩) (Kept.setCell (S := fun b => b = b1 ∨ b = w.heap.size) (p := ⟨b1, 0, none⟩) (Kept.refl _ _) (fun _ => .inl rfl) _) (fun _ => .inr rfl) _) (fun _ => .inr rfl) _) (fun _ => .inr rfl) _) (fun _ => .inr rfl) _
      refine bodyPost_ret (v := .agg #[(.string (str y)), (.int .i64 e.kind), (.int .i64 e.size), (.slice a e.chunks.length c)]) (by simp [results, Tryz.results96, go_sem, q0, q1, q2, q3]) rfl ⟨⟨y, e.kind, e.size, e.chunks⟩, a, c, rfl, ⟨by first | exact hyl | exact hxl, by first | exact hc3 | exact hc4⟩, ?_, (S3.out.kept hk (fun b hb e => by omega)).mono (by omega), K3.out.trans_own hk (fun b hb e => by omega)⟩
      exact ownsRow_mono (ownsRow_kept O3.out hk (fun b hb hS => by have := OL.out b hb; omega)) (by omega)
  · by_cases h1 : i = 1
    · subst h1
      have K2' := hide (K2.out.alloc (.cells #[.int .i64 0, .int .i64 5, .int .i64 1] 2))
      have E2' := hide (E2.out.below (below_alloc w2 (.cells #[.int .i64 0, .int .i64 5, .int .i64 1] 2)))
      have X2' := hide (X2.out.below (below_alloc w2 (.cells #[.int .i64 0, .int .i64 5, .int .i64 1] 2)))
      have O2' := hide (ownsRow_below O2.out (below_alloc w2 (.cells #[.int .i64 0, .int .i64 5, .int .i64 1] 2)))
      have S2' := hide (S2.out.below (below_alloc w2 (.cells #[.int .i64 0, .int .i64 5, .int .i64 1] 2)))
      have CC := hide (cells3e w2 (0) (5) (1) 2)
      have hw2l : b1 < w2.heap.size := E2.out.1.lt
      go_wp2_with fail
      refine (pick_e p w2.heap.size 3 3 [0, 5, 1] zs _ _ S2'.out HU.out (by omega) hl (by decide) (by decide) rfl (by omega) (by simp) CC.out).mono ?_
      rintro r w3 ⟨v, hv, rfl, s3, k3⟩
      have S3 := hide s3
      have K3 := hide (K2'.out.trans k3)
      have E3 := hide (E2'.out.kept k3 (by omega))
      have X3 := hide (X2'.out.kept k3 (by omega))
      have O3 := hide (ownsRow_kept O2'.out k3 (fun b hb e => by have := O2'.out.lt b hb; omega))
      clear s3 k3
      obtain ⟨⟨p0, p1, p2, p3⟩, pf⟩ := E3.out
      obtain ⟨⟨q0, q1, q2, q3⟩, qf⟩ := X3.out
      have pf0 := pf 0
      have pf1 := pf 1
      have pf2 := pf 2
      have pf3 := pf 3
      have qf0 := qf 0
      have qf1 := qf 1
      have qf2 := qf 2
      have qf3 := qf 3
      have hlt3 : b1 < w3.heap.size := World.block_lt_of_cell? _ _ p0
      clear pf qf
      go_wp2_with fail
      have hk : Kept (fun b => b = b1 ∨ b = w.heap.size) w3 (((((w3.setCell ⟨b1, 1, none⟩ (.int .i64 v)).setCell ⟨w.heap.size, 0, none⟩ (.string (str e.path))).setCell ⟨w.heap.size, 1, none⟩ (.int .i64 v)).setCell ⟨w.heap.size, 2, none⟩ (.int .i64 e.size)).setCell ⟨w.heap.size, 3, none⟩ (.slice a e.chunks.length c)) := Kept.setCell (S := fun b => b = b1 ∨ b = w.heap.size) (p := ⟨w.heap.size, 3, none⟩) (Kept.setCell (S := fun b => b = b1 ∨ b = w.heap.size) (p := ⟨w.heap.size, 2, none⟩) (Kept.setCell (S := fun b => b = b1 ∨ b = w.heap.size) (p := ⟨w.heap.size, 1, none⟩) (Kept.setCell (S := fun b => b = b1 ∨ b = w.heap.size) (p := ⟨w.heap.size, 0, none⟩) (Kept.setCell (S := fun b => b = b1 ∨ b = w.heap.size) (p := ⟨b1, 1, none⟩) (Kept.refl _ _) (fun _ => .inl rfl) _) (fun _ => .inr rfl) _) (fun _ => .inr rfl) _) (fun _ => .inr rfl) _) (fun _ => .inr rfl) _
      refine bodyPost_ret (v := .agg #[(.string (str e.path)), (.int .i64 v), (.int .i64 e.size), (.slice a e.chunks.length c)]) (by simp [results, Tryz.results96, go_sem, q0, q1, q2, q3]) rfl ⟨⟨e.path, v, e.size, e.chunks⟩, a, c, rfl, ⟨by first | exact hyl | exact hxl, by first | exact hc3 | exact hc4⟩, ?_, (S3.out.kept hk (fun b hb e => by omega)).mono (by omega), K3.out.trans_own hk (fun b hb e => by omega)⟩
      exact ownsRow_mono (ownsRow_kept O3.out hk (fun b hb hS => by have := OL.out b hb; omega)) (by omega)
    · by_cases h2 : i = 2
      · subst h2
        have K2' := hide (K2.out.alloc (.cells #[.int .i64 (-1), .int .i64 25, .int .i64 9] 2))
        have E2' := hide (E2.out.below (below_alloc w2 (.cells #[.int .i64 (-1), .int .i64 25, .int .i64 9] 2)))
        have X2' := hide (X2.out.below (below_alloc w2 (.cells #[.int .i64 (-1), .int .i64 25, .int .i64 9] 2)))
        have O2' := hide (ownsRow_below O2.out (below_alloc w2 (.cells #[.int .i64 (-1), .int .i64 25, .int .i64 9] 2)))
        have S2' := hide (S2.out.below (below_alloc w2 (.cells #[.int .i64 (-1), .int .i64 25, .int .i64 9] 2)))
        have CC := hide (cells3e w2 (-1) (25) (9) 2)
        have hw2l : b1 < w2.heap.size := E2.out.1.lt
        go_wp2_with fail
        refine (pick_e p w2.heap.size 3 3 [-1, 25, 9] zs _ _ S2'.out HU.out (by omega) hl (by decide) (by decide) rfl (by omega) (by simp) CC.out).mono ?_
        rintro r w3 ⟨v, hv, rfl, s3, k3⟩
        have S3 := hide s3
        have K3 := hide (K2'.out.trans k3)
        have E3 := hide (E2'.out.kept k3 (by omega))
        have X3 := hide (X2'.out.kept k3 (by omega))
        have O3 := hide (ownsRow_kept O2'.out k3 (fun b hb e => by have := O2'.out.lt b hb; omega))
        clear s3 k3
        obtain ⟨⟨p0, p1, p2, p3⟩, pf⟩ := E3.out
        obtain ⟨⟨q0, q1, q2, q3⟩, qf⟩ := X3.out
        have pf0 := pf 0
        have pf1 := pf 1
        have pf2 := pf 2
        have pf3 := pf 3
        have qf0 := qf 0
        have qf1 := qf 1
        have qf2 := qf 2
        have qf3 := qf 3
        have hlt3 : b1 < w3.heap.size := World.block_lt_of_cell? _ _ p0
        clear pf qf
        go_wp2_with fail
        have hk : Kept (fun b => b = b1 ∨ b = w.heap.size) w3 (((((w3.setCell ⟨b1, 2, none⟩ (.int .i64 v)).setCell ⟨w.heap.size, 0, none⟩ (.string (str e.path))).setCell ⟨w.heap.size, 1, none⟩ (.int .i64 e.kind)).setCell ⟨w.heap.size, 2, none⟩ (.int .i64 v)).setCell ⟨w.heap.size, 3, none⟩ (.slice a e.chunks.length c)) := Kept.setCell (S := fun b => b = b1 ∨ b = w.heap.size) (p := ⟨w.heap.size, 3, none⟩) (Kept.setCell (S := fun b => b = b1 ∨ b = w.heap.size) (p := ⟨w.heap.size, 2, none⟩) (Kept.setCell (S := fun b => b = b1 ∨ b = w.heap.size) (p := ⟨w.heap.size, 1, none⟩) (Kept.setCell (S := fun b => b = b1 ∨ b = w.heap.size) (p := ⟨w.heap.size, 0, none⟩) (Kept.setCell (S := fun b => b = b1 ∨ b = w.heap.size) (p := ⟨b1, 2, none⟩) (Kept.refl _ _) (fun _ => .inl rfl) _) (fun _ => .inr rfl) _) (fun _ => .inr rfl) _) (fun _ => .inr rfl) _) (fun _ => .inr rfl) _
        refine bodyPost_ret (v := .agg #[(.string (str e.path)), (.int .i64 e.kind), (.int .i64 v), (.slice a e.chunks.length c)]) (by simp [results, Tryz.results96, go_sem, q0, q1, q2, q3]) rfl ⟨⟨e.path, e.kind, v, e.chunks⟩, a, c, rfl, ⟨by first | exact hyl | exact hxl, by first | exact hc3 | exact hc4⟩, ?_, (S3.out.kept hk (fun b hb e => by omega)).mono (by omega), K3.out.trans_own hk (fun b hb e => by omega)⟩
        exact ownsRow_mono (ownsRow_kept O3.out hk (fun b hb hS => by have := OL.out b hb; omega)) (by omega)
      · by_cases h3 : i = 3
        · subst h3
          have BD := hide ((below_alloc w2 (.cells #[.int .i64 (-1), .int .i64 5] 2)).drew)
          have K2' := (K2.out.alloc (.cells #[.int .i64 (-1), .int .i64 5] 2)).drew
          have E2' := hide (E2.out.below BD.out)
          have X2' := hide (X2.out.below BD.out)
          have O2' := hide (ownsRow_below O2.out BD.out)
          have S2' := hide (S2.out.below BD.out)
          have CC : Hid (∀ i, i < 2 → (w2.alloc (.cells #[.int .i64 (-1), .int .i64 5] 2)).drew.cell? ⟨w2.heap.size, i, none⟩ = some (.int .i64 (([-1, 5] : List Int).getD i 0))) := hide (cells2e w2 (-1) 5 2)
          have hw2l : b1 < w2.heap.size := E2.out.1.lt
          obtain ⟨⟨p0, p1, p2, p3⟩, pf⟩ := E2.out
          have pf3 := pf 3
          have hm1 : e.chunks.length + 1 ≤ maxLen := by unfold maxLen; omega
          have hm1' : (e.chunks.length + 1) * 8 ≤ 140737488355328 := by omega
          go_wp2_with fail
          go_region_law
            ((first
              | (have hO3 := O3; clear hO3; refine step_append_list (by rfl) (.tmp 28) (.tmp 32) 38 (by rfl) (w.heap.size + 1) 2 i0 (.int .i64 0) 1 8 Tryz.underlying38 hi0 hz0 hz1 hz2 rfl (by decide) (.slice a e.chunks.length c) e.chunks.length (e.chunks.map (Value.int .i64)) (by rfl) (O3.out.alloc _) ⟨w3.heap.size, 0, none⟩ 1 1 [.int .i64 v] (by rfl) (by rfl) (news_one rfl) (by intro u hu; simp at hu; subst hu; rfl) (e.chunks.length + 1) rfl hm1 hm1' (by have := K3.out.size; simp; omega) ?_; intro av4 cv4 w4 hown4 hk4; have O4 := hide hown4; have K4 := hide hk4; have E4 := (E3.out.below (below_alloc w3 _)).kept hk4 (fun hq => by have := OL.out b1 hq; omega); have c5 := E4.1.2.2.2; have f5 := E4.2 3; have E4 := hide E4; clear hown4 hk4)
              | (go_simp; go_wp2_with (go_at_call 56; refine (pick_e p w2.heap.size 2 2 [-1, 5] zs _ _ S2'.out HU.out (by omega) hl (by decide) (by decide) rfl (by omega) (by show w2.heap.size < (w2.alloc (.cells #[.int .i64 (-1), .int .i64 5] 2)).heap.size; simp) CC.out).mono ?_; rintro r w3 ⟨v, hv, rfl, s3, k3⟩; have c3 := (E2'.out.kept k3 (by omega)).1.2.2.2; have c4 : ∀ o, (w3.alloc o).cell? ⟨b1, 3, none⟩ = some (.slice a e.chunks.length c) := (fun o => ((E2'.out.kept k3 (by omega)).below (below_alloc w3 o)).1.2.2.2); have S3 := hide s3; have K3 := hide (K2'.trans k3); have E3 := hide (E2'.out.kept k3 (by omega)); have X3 := hide (X2'.out.kept k3 (by omega)); have O3 := hide (ownsRow_kept O2'.out k3 (fun b hb e => by have := O2'.out.lt b hb; omega)); clear s3 k3))))
          all_goals
            have X4 := hide ((X3.out.below (below_alloc w3 (.cells #[.int .i64 v] 2))).kept K4.out (fun hq => by have := OL.out _ hq; omega))
            have S4 := hide ((S3.out.below (below_alloc w3 (.cells #[.int .i64 v] 2))).kept K4.out (fun b hb hq => by have := OL.out b hq; omega))
            have K5 := hide ((K3.out.alloc (.cells #[.int .i64 v] 2)).trans_own K4.out (fun b hb hq => by have := OL.out b hq; omega))
            have hnl : (e.chunks ++ [v]).length = e.chunks.length + 1 := by simp
            have Q4 : Hid (w4.ownsRow (w.heap.size + 1) 2 1 (.slice av4 (e.chunks ++ [v]).length cv4) (e.chunks ++ [v]).length ((e.chunks ++ [v]).map (Value.int .i64))) := hide (by rw [hnl, List.map_append]; exact O4.out)
            have hne : ∀ b, (Value.slice av4 (e.chunks ++ [v]).length cv4).ownBlock = some b → b ≠ b1 ∧ b ≠ w.heap.size := by
              intro b hb
              have hge := Q4.out.lt b hb
              refine ⟨fun hbb => ?_, by omega⟩
              obtain ⟨g, cap, hv, h1, h2, h3, h4⟩ := ownsRow_ints Q4.out rfl (by omega)
              rw [hv] at hb
              have hg : g = b := by simpa [Value.ownBlock] using hb
              have h5 := h3 0 (by omega)
              rw [hg, hbb, E4.out.1.1] at h5
              cases h5
            clear p0 p1 p2 p3 pf pf3
            obtain ⟨⟨p0, p1, p2, p3⟩, pf⟩ := E4.out
            obtain ⟨⟨q0, q1, q2, q3⟩, qf⟩ := X4.out
            have pf0 := pf 0
            have pf1 := pf 1
            have pf2 := pf 2
            have pf3 := pf 3
            have qf0 := qf 0
            have qf1 := qf 1
            have qf2 := qf 2
            have qf3 := qf 3
            have hlt3 : b1 < w4.heap.size := World.block_lt_of_cell? _ _ p0
            clear pf qf
            go_wp2_with fail
            have hk : Kept (fun b => b = b1 ∨ b = w.heap.size) w4 (((((w4.setCell ⟨b1, 3, none⟩ (.slice av4 (e.chunks.length + 1) cv4)).setCell ⟨w.heap.size, 0, none⟩ (.string (str e.path))).setCell ⟨w.heap.size, 1, none⟩ (.int .i64 e.kind)).setCell ⟨w.heap.size, 2, none⟩ (.int .i64 e.size)).setCell ⟨w.heap.size, 3, none⟩ (.slice av4 (e.chunks.length + 1) cv4)) := Kept.setCell (S := fun b => b = b1 ∨ b = w.heap.size) (p := ⟨w.heap.size, 3, none⟩) (Kept.setCell (S := fun b => b = b1 ∨ b = w.heap.size) (p := ⟨w.heap.size, 2, none⟩) (Kept.setCell (S := fun b => b = b1 ∨ b = w.heap.size) (p := ⟨w.heap.size, 1, none⟩) (Kept.setCell (S := fun b => b = b1 ∨ b = w.heap.size) (p := ⟨w.heap.size, 0, none⟩) (Kept.setCell (S := fun b => b = b1 ∨ b = w.heap.size) (p := ⟨b1, 3, none⟩) (Kept.refl _ _) (fun _ => .inl rfl) _) (fun _ => .inr rfl) _) (fun _ => .inr rfl) _) (fun _ => .inr rfl) _) (fun _ => .inr rfl) _
            refine bodyPost_ret (v := .agg #[(.string (str e.path)), (.int .i64 e.kind), (.int .i64 e.size), (.slice av4 (e.chunks.length + 1) cv4)]) (by simp [results, Tryz.results96, go_sem, q0, q1, q2, q3]) rfl ⟨⟨e.path, e.kind, e.size, e.chunks ++ [v]⟩, av4, cv4, by rw [hnl], ⟨hxl, by rw [hnl]; omega⟩, ?_, (S4.out.kept hk (fun b hb e => by omega)).mono (by omega), K5.out.trans_own hk (fun b hb e => by omega)⟩
            exact ownsRow_mono (ownsRow_kept Q4.out hk (fun b hb hS => by have := hne b hb; omega)) (by omega)
        · have e0 : ((i : Int) == 0) = false := by simp; omega
          have e1 : ((i : Int) == 1) = false := by simp; omega
          have e2 : ((i : Int) == 2) = false := by simp; omega
          have e3 : ((i : Int) == 3) = false := by simp; omega
          clear h0 h1 h2 h3
          have S3 := S2
          have K3 := K2
          have E3 := E2
          have X3 := X2
          have O3 := O2
          obtain ⟨⟨p0, p1, p2, p3⟩, pf⟩ := E3.out
          obtain ⟨⟨q0, q1, q2, q3⟩, qf⟩ := X3.out
          have pf0 := pf 0
          have pf1 := pf 1
          have pf2 := pf 2
          have pf3 := pf 3
          have qf0 := qf 0
          have qf1 := qf 1
          have qf2 := qf 2
          have qf3 := qf 3
          have hlt3 : b1 < w2.heap.size := World.block_lt_of_cell? _ _ p0
          clear pf qf
          go_wp2_with fail
          have hk : Kept (fun b => b = b1 ∨ b = w.heap.size) w2 ((((w2.setCell ⟨w.heap.size, 0, none⟩ (.string (str e.path))).setCell ⟨w.heap.size, 1, none⟩ (.int .i64 e.kind)).setCell ⟨w.heap.size, 2, none⟩ (.int .i64 e.size)).setCell ⟨w.heap.size, 3, none⟩ (.slice a e.chunks.length c)) := Kept.setCell (S := fun b => b = b1 ∨ b = w.heap.size) (p := ⟨w.heap.size, 3, none⟩) (Kept.setCell (S := fun b => b = b1 ∨ b = w.heap.size) (p := ⟨w.heap.size, 2, none⟩) (Kept.setCell (S := fun b => b = b1 ∨ b = w.heap.size) (p := ⟨w.heap.size, 1, none⟩) (Kept.setCell (S := fun b => b = b1 ∨ b = w.heap.size) (p := ⟨w.heap.size, 0, none⟩) (Kept.refl _ _) (fun _ => .inr rfl) _) (fun _ => .inr rfl) _) (fun _ => .inr rfl) _) (fun _ => .inr rfl) _
          refine bodyPost_ret (v := .agg #[(.string (str e.path)), (.int .i64 e.kind), (.int .i64 e.size), (.slice a e.chunks.length c)]) (by simp [results, Tryz.results96, go_sem, q0, q1, q2, q3]) rfl ⟨⟨e.path, e.kind, e.size, e.chunks⟩, a, c, rfl, ⟨by first | exact hyl | exact hxl, by first | exact hc3 | exact hc4⟩, ?_, (S3.out.kept hk (fun b hb e => by omega)).mono (by omega), K3.out.trans_own hk (fun b hb e => by omega)⟩
          exact ownsRow_mono (ownsRow_kept O3.out hk (fun b hb hS => by have := OL.out b hb; omega)) (by omega)

end Go.Proofs.YtjkmbicedbdifaaGreat
