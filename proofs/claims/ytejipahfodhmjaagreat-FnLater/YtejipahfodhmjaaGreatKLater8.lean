/-
  Texts put together: DrawJ DrawH LayG TreL EntY EntT.
-/
import Derived.Deep.RegionLaw
import Derived.Test.YtejipahfodhmjaaGreatKLater7
import Derived.Deep.RegionWith
import Derived.Test.YtejipahfodhmjaaGreatKLater4
import Derived.Test.YtejipahfodhmjaaGreatKLater1
import Derived.Test.YtejipahfodhmjaaGreatKLater6
namespace Go.Proofs.YtejipahfodhmjaaGreat
open Go.RowKit Go.Maps
set_option linter.unusedVariables false
attribute [local go_sem ↓] Go.wp_at_zero Go.wp_at_succ

theorem cells3e (w : World) (a b c : Int) (t : TypeId) : ∀ i, i < 3 → (w.alloc (.cells #[.int .i64 a, .int .i64 b, .int .i64 c] t)).cell? ⟨w.heap.size, i, none⟩ = some (.int .i64 ([a, b, c].getD i 0)) := by
  intro i hi
  match i, hi with
  | 0, _ | 1, _ | 2, _ => simp
theorem cells2e (w : World) (a b : Int) (t : TypeId) : ∀ i, i < 2 → (w.alloc (.cells #[.int .i64 a, .int .i64 b] t)).cell? ⟨w.heap.size, i, none⟩ = some (.int .i64 ([a, b].getD i 0)) := by
  intro i hi
  match i, hi with
  | 0, _ | 1, _ => simp
theorem news_one {w : World} {H : Nat} {u : Value} {t : TypeId} (hH : w.heap.size = H) : ∀ j x, [u][j]? = some x → (w.alloc (.cells #[u] t)).cell? ((⟨H, 0, none⟩ : Addr).add j) = some x := by
  subst hH
  intro j x hj
  rw [add_addr, Nat.zero_add, cell_of_row _ w.heap.size j #[u] t (0, 0) (heap_alloc_new w _)]
  simpa using hj
set_option maxRecDepth 100000 in
set_option maxHeartbeats 6400000 in
theorem bentEntry_e (p : Nat) (zs : List Int) (T : Int) (w : World) (h : SrcX w p zs T) (hu : U8 zs) (hT : T ≤ 600000) (hl : zs.length ≤ 2097152) :
    Calls Tryz.prog 176 #[.pointer (some ⟨p, 0, none⟩)] w (DrawnE w p zs (T + 40) (fun e => e.path.length ≤ 9 ∧ e.chunks.length ≤ 4)) := by
  obtain ⟨i0, hi0, hz0, hz1, hz2⟩ := info_parts Tryz.infoI64
  have hp := h.lt
  have X0 := hide (Box4.new w (.string ⟨#[]⟩) (.int .i64 0) (.int .i64 0) (.slice none 0 0) 40)
  have S0 := hide (h.below (below_alloc w (.cells #[.string ⟨#[]⟩, .int .i64 0, .int .i64 0, .slice none 0 0] 40)))
  have K0 := hide ((Kept.refl (fun b => b = p) w).alloc (.cells #[.string ⟨#[]⟩, .int .i64 0, .int .i64 0, .slice none 0 0] 40))
  have HU := hide hu
  have hsw : (w.alloc (.cells #[.string ⟨#[]⟩, .int .i64 0, .int .i64 0, .slice none 0 0] 40)).heap.size = w.heap.size + 1 := by simp
  clear h hu
  go_enter Tryz.func176, Tryz.ntmps176
  go_wp2_with fail
  refine (drawEntry_e p zs T _ S0.out HU.out (by omega) hl).mono ?_
  rintro r w1 ⟨e, a, c, rfl, ⟨hef, hxl⟩, ho1, s1, k1⟩
  rw [hsw] at ho1
  have hc5 : e.chunks.length ≤ 3 := entFault_chunks hef
  have hc3 : e.chunks.length ≤ 4 := by omega
  have hw1 : w.heap.size < w1.heap.size := by have := k1.size; omega
  have AE := hide (below_alloc w1 (.cells #[.string (str e.path), .int .i64 e.kind, .int .i64 e.size, .slice a e.chunks.length c] 40))
  have S1 := hide (s1.below AE.out)
  have K1 := hide ((K0.out.trans k1).alloc (.cells #[.string (str e.path), .int .i64 e.kind, .int .i64 e.size, .slice a e.chunks.length c] 40))
  have X1 := hide ((X0.out.kept k1 (by omega)).below AE.out)
  have E1 := hide (Box4.new w1 (.string (str e.path)) (.int .i64 e.kind) (.int .i64 e.size) (.slice a e.chunks.length c) 40)
  have O1 := hide (ownsRow_below ho1 AE.out)
  have OL := hide (fun b hb => ho1.lt b hb)
  clear s1 k1 hef X0 S0 K0 ho1 hsw AE
  go_wp2_with fail
  generalize w1.alloc (.cells #[.string (str e.path), .int .i64 e.kind, .int .i64 e.size, .slice a e.chunks.length c] 40) = W1 at *
  obtain ⟨b1, hb1⟩ : ∃ b1, b1 = w1.heap.size := ⟨_, rfl⟩
  rw [← hb1] at E1 OL hw1 ⊢
  clear hb1
  refine (next_e p zs _ 12 _ S1.out HU.out (by omega) (by decide) (by decide) hl).mono ?_
  rintro r w2 ⟨i, rfl, hi, s2, k2⟩
  have S2 := hide s2
  have K2 := hide (K1.out.trans k2)
  have E2 := hide (E1.out.kept k2 (by omega))
  have X2 := hide (X1.out.kept k2 (by omega))
  have O2 := hide (ownsRow_kept O1.out k2 (fun b hb e => by have := O1.out.lt b hb; omega))
  clear s2 k2 S1 K1 X1 O1 E1
  by_cases h0 : i = 0
  · subst h0
    · go_wp2_with fail
      refine (bent_e p zs _ _ S2.out HU.out (by omega) hl).mono ?_
      rintro r w3 ⟨y, rfl, hyl, s3, k3⟩
      have K2' := K2
      have E2' := E2
      have X2' := X2
      have O2' := O2
      have S3 := hide s3
      have K3 := hide (K2'.out.trans k3)
      have E3 := hide (E2'.out.kept k3 (by omega))
      have X3 := hide (X2'.out.kept k3 (by omega))
      have O3 := hide (ownsRow_kept O2'.out k3 (fun b hb e => by have := O2'.out.lt b hb; omega))
      clear s3 k3
      obtain ⟨⟨p0, p1, p2, p3⟩, pf⟩ := E3.out
      obtain ⟨⟨q0, q1, q2, q3⟩, qf⟩ := X3.out
      have pf0 := pf 0
      have pf1 := pf 1
      have pf2 := pf 2
      have pf3 := pf 3
      have qf0 := qf 0
      have qf1 := qf 1
      have qf2 := qf 2
      have qf3 := qf 3
      have hlt3 : b1 < w3.heap.size := World.block_lt_of_cell? _ _ p0
      clear pf qf
      go_wp2_with fail
      have hk : Kept (fun b => b = b1 ∨ b = w.heap.size) w3 (((((w3.setCell ⟨b1, 0, none⟩ (.string (str y))).setCell ⟨w.heap.size, 0, none⟩ (.string (str y))).setCell ⟨w.heap.size, 1, none⟩ (.int .i64 e.kind)).setCell ⟨w.heap.size, 2, none⟩ (.int .i64 e.size)).setCell ⟨w.heap.size, 3, none⟩ (.slice a e.chunks.length c)) := Kept.setCell (S := fun b => b = b1 ∨ b = w.heap.size) (p := ⟨w.heap.size, 3, none⟩) (Kept.setCell (S := fun b => b = b1 ∨ b = w.heap.size) (p := ⟨w.heap.size, 2, none⟩) (Kept.setCell (S := fun b => b = b1 ∨ b = w.heap.size) (p := ⟨w.heap.size, 1, none⟩) (Kept.setCell (S := fun b => b = b1 ∨ b = w.heap.size) (p := ⟨w.heap.size, 0, none⟩) (Kept.setCell (S := fun b => b = b1 ∨ b = w.heap.size) (p := ⟨b1, 0, none⟩) (Kept.refl _ _) (fun _ => .inl rfl) _) (fun _ => .inr rfl) _) (fun _ => .inr rfl) _) (fun _ => .inr rfl) _) (fun _ => .inr rfl) _
      refine bodyPost_ret (v := .agg #[(.string (str y)), (.int .i64 e.kind), (.int .i64 e.size), (.slice a e.chunks.length c)]) (by simp [results, Tryz.results176, go_sem, q0, q1, q2, q3]) rfl ⟨⟨y, e.kind, e.size, e.chunks⟩, a, c, rfl, ⟨by first | exact hyl | exact hxl, by first | exact hc3 | exact hc4⟩, ?_, (S3.out.kept hk (fun b hb e => by omega)).mono (by omega), K3.out.trans_own hk (fun b hb e => by omega)⟩
      exact ownsRow_mono (ownsRow_kept O3.out hk (fun b hb hS => by have := OL.out b hb; omega)) (by omega)
  · by_cases h1 : i = 1
    · subst h1
      have K2' := hide (K2.out.alloc (.cells #[.int .i64 0, .int .i64 5, .int .i64 1] 2))
      have E2' := hide (E2.out.below (below_alloc w2 (.cells #[.int .i64 0, .int .i64 5, .int .i64 1] 2)))
      have X2' := hide (X2.out.below (below_alloc w2 (.cells #[.int .i64 0, .int .i64 5, .int .i64 1] 2)))
      have O2' := hide (ownsRow_below O2.out (below_alloc w2 (.cells #[.int .i64 0, .int .i64 5, .int .i64 1] 2)))
      have S2' := hide (S2.out.below (below_alloc w2 (.cells #[.int .i64 0, .int .i64 5, .int .i64 1] 2)))
      have CC := hide (cells3e w2 (0) (5) (1) 2)
      have hw2l : b1 < w2.heap.size := E2.out.1.lt
      go_wp2_with fail
      refine (pick_e p w2.heap.size 3 3 [0, 5, 1] zs _ _ S2'.out HU.out (by omega) hl (by decide) (by decide) rfl (by omega) (by simp) CC.out).mono ?_
      rintro r w3 ⟨v, hv, rfl, s3, k3⟩
      have S3 := hide s3
      have K3 := hide (K2'.out.trans k3)
      have E3 := hide (E2'.out.kept k3 (by omega))
      have X3 := hide (X2'.out.kept k3 (by omega))
      have O3 := hide (ownsRow_kept O2'.out k3 (fun b hb e => by have := O2'.out.lt b hb; omega))
      clear s3 k3
      obtain ⟨⟨p0, p1, p2, p3⟩, pf⟩ := E3.out
      obtain ⟨⟨q0, q1, q2, q3⟩, qf⟩ := X3.out
      have pf0 := pf 0
      have pf1 := pf 1
      have pf2 := pf 2
      have pf3 := pf 3
      have qf0 := qf 0
      have qf1 := qf 1
      have qf2 := qf 2
      have qf3 := qf 3
      have hlt3 : b1 < w3.heap.size := World.block_lt_of_cell? _ _ p0
      clear pf qf
      go_wp2_with fail
      have hk : Kept (fun b => b = b1 ∨ b = w.heap.size) w3 (((((w3.setCell ⟨b1, 1, none⟩ (.int .i64 v)).setCell ⟨w.heap.size, 0, none⟩ (.string (str e.path))).setCell ⟨w.heap.size, 1, none⟩ (.int .i64 v)).setCell ⟨w.heap.size, 2, none⟩ (.int .i64 e.size)).setCell ⟨w.heap.size, 3, none⟩ (.slice a e.chunks.length c)) := Kept.setCell (S := fun b => b = b1 ∨ b = w.heap.size) (p := ⟨w.heap.size, 3, none⟩) (Kept.setCell (S := fun b => b = b1 ∨ b = w.heap.size) (p := ⟨w.heap.size, 2, none⟩) (Kept.setCell (S := fun b => b = b1 ∨ b = w.heap.size) (p := ⟨w.heap.size, 1, none⟩) (Kept.setCell (S := fun b => b = b1 ∨ b = w.heap.size) (p := ⟨w.heap.size, 0, none⟩) (Kept.setCell (S := fun b => b = b1 ∨ b = w.heap.size) (p := ⟨b1, 1, none⟩) (Kept.refl _ _) (fun _ => .inl rfl) _) (fun _ => .inr rfl) _) (fun _ => .inr rfl) _) (fun _ => .inr rfl) _) (fun _ => .inr rfl) _
      refine bodyPost_ret (v := .agg #[(.string (str e.path)), (.int .i64 v), (.int .i64 e.size), (.slice a e.chunks.length c)]) (by simp [results, Tryz.results176, go_sem, q0, q1, q2, q3]) rfl ⟨⟨e.path, v, e.size, e.chunks⟩, a, c, rfl, ⟨by first | exact hyl | exact hxl, by first | exact hc3 | exact hc4⟩, ?_, (S3.out.kept hk (fun b hb e => by omega)).mono (by omega), K3.out.trans_own hk (fun b hb e => by omega)⟩
      exact ownsRow_mono (ownsRow_kept O3.out hk (fun b hb hS => by have := OL.out b hb; omega)) (by omega)
    · by_cases h2 : i = 2
      · subst h2
        have K2' := hide (K2.out.alloc (.cells #[.int .i64 (-1), .int .i64 25, .int .i64 9] 2))
        have E2' := hide (E2.out.below (below_alloc w2 (.cells #[.int .i64 (-1), .int .i64 25, .int .i64 9] 2)))
        have X2' := hide (X2.out.below (below_alloc w2 (.cells #[.int .i64 (-1), .int .i64 25, .int .i64 9] 2)))
        have O2' := hide (ownsRow_below O2.out (below_alloc w2 (.cells #[.int .i64 (-1), .int .i64 25, .int .i64 9] 2)))
        have S2' := hide (S2.out.below (below_alloc w2 (.cells #[.int .i64 (-1), .int .i64 25, .int .i64 9] 2)))
        have CC := hide (cells3e w2 (-1) (25) (9) 2)
        have hw2l : b1 < w2.heap.size := E2.out.1.lt
        go_wp2_with fail
        refine (pick_e p w2.heap.size 3 3 [-1, 25, 9] zs _ _ S2'.out HU.out (by omega) hl (by decide) (by decide) rfl (by omega) (by simp) CC.out).mono ?_
        rintro r w3 ⟨v, hv, rfl, s3, k3⟩
        have S3 := hide s3
        have K3 := hide (K2'.out.trans k3)
        have E3 := hide (E2'.out.kept k3 (by omega))
        have X3 := hide (X2'.out.kept k3 (by omega))
        have O3 := hide (ownsRow_kept O2'.out k3 (fun b hb e => by have := O2'.out.lt b hb; omega))
        clear s3 k3
        obtain ⟨⟨p0, p1, p2, p3⟩, pf⟩ := E3.out
        obtain ⟨⟨q0, q1, q2, q3⟩, qf⟩ := X3.out
        have pf0 := pf 0
        have pf1 := pf 1
        have pf2 := pf 2
        have pf3 := pf 3
        have qf0 := qf 0
        have qf1 := qf 1
        have qf2 := qf 2
        have qf3 := qf 3
        have hlt3 : b1 < w3.heap.size := World.block_lt_of_cell? _ _ p0
        clear pf qf
        go_wp2_with fail
        have hk : Kept (fun b => b = b1 ∨ b = w.heap.size) w3 (((((w3.setCell ⟨b1, 2, none⟩ (.int .i64 v)).setCell ⟨w.heap.size, 0, none⟩ (.string (str e.path))).setCell ⟨w.heap.size, 1, none⟩ (.int .i64 e.kind)).setCell ⟨w.heap.size, 2, none⟩ (.int .i64 v)).setCell ⟨w.heap.size, 3, none⟩ (.slice a e.chunks.length c)) := Kept.setCell (S := fun b => b = b1 ∨ b = w.heap.size) (p := ⟨w.heap.size, 3, none⟩) (Kept.setCell (S := fun b => b = b1 ∨ b = w.heap.size) (p := ⟨w.heap.size, 2, none⟩) (Kept.setCell (S := fun b => b = b1 ∨ b = w.heap.size) (p := ⟨w.heap.size, 1, none⟩) (Kept.setCell (S := fun b => b = b1 ∨ b = w.heap.size) (p := ⟨w.heap.size, 0, none⟩) (Kept.setCell (S := fun b => b = b1 ∨ b = w.heap.size) (p := ⟨b1, 2, none⟩) (Kept.refl _ _) (fun _ => .inl rfl) _) (fun _ => .inr rfl) _) (fun _ => .inr rfl) _) (fun _ => .inr rfl) _) (fun _ => .inr rfl) _
        refine bodyPost_ret (v := .agg #[(.string (str e.path)), (.int .i64 e.kind), (.int .i64 v), (.slice a e.chunks.length c)]) (by simp [results, Tryz.results176, go_sem, q0, q1, q2, q3]) rfl ⟨⟨e.path, e.kind, v, e.chunks⟩, a, c, rfl, ⟨by first | exact hyl | exact hxl, by first | exact hc3 | exact hc4⟩, ?_, (S3.out.kept hk (fun b hb e => by omega)).mono (by omega), K3.out.trans_own hk (fun b hb e => by omega)⟩
        exact ownsRow_mono (ownsRow_kept O3.out hk (fun b hb hS => by have := OL.out b hb; omega)) (by omega)
      · by_cases h3 : i = 3
        · subst h3
          have BD := hide ((below_alloc w2 (.cells #[.int .i64 (-1), .int .i64 5] 2)).drew)
          have K2' := (K2.out.alloc (.cells #[.int .i64 (-1), .int .i64 5] 2)).drew
          have E2' := hide (E2.out.below BD.out)
          have X2' := hide (X2.out.below BD.out)
          have O2' := hide (ownsRow_below O2.out BD.out)
          have S2' := hide (S2.out.below BD.out)
          have CC : Hid (∀ i, i < 2 → (w2.alloc (.cells #[.int .i64 (-1), .int .i64 5] 2)).drew.cell? ⟨w2.heap.size, i, none⟩ = some (.int .i64 (([-1, 5] : List Int).getD i 0))) := hide (cells2e w2 (-1) 5 2)
          have hw2l : b1 < w2.heap.size := E2.out.1.lt
          obtain ⟨⟨p0, p1, p2, p3⟩, pf⟩ := E2.out
          have pf3 := pf 3
          have hm1 : e.chunks.length + 1 ≤ maxLen := by unfold maxLen; omega
          have hm1' : (e.chunks.length + 1) * 8 ≤ 140737488355328 := by omega
          go_wp2_with fail
          go_region_law
            ((first
              | (have hO3 := O3; clear hO3; refine step_append_list (by rfl) (.tmp 28) (.tmp 32) 31 (by rfl) (w.heap.size + 1) 2 i0 (.int .i64 0) 1 8 Tryz.underlying31 hi0 hz0 hz1 hz2 rfl (by decide) (.slice a e.chunks.length c) e.chunks.length (e.chunks.map (Value.int .i64)) (by rfl) (O3.out.alloc _) ⟨w3.heap.size, 0, none⟩ 1 1 [.int .i64 v] (by rfl) (by rfl) (news_one rfl) (by intro u hu; simp at hu; subst hu; rfl) (e.chunks.length + 1) rfl hm1 hm1' (by have := K3.out.size; simp; omega) ?_; intro av4 cv4 w4 hown4 hk4; have O4 := hide hown4; have K4 := hide hk4; have E4 := (E3.out.below (below_alloc w3 _)).kept hk4 (fun hq => by have := OL.out b1 hq; omega); have c5 := E4.1.2.2.2; have f5 := E4.2 3; have E4 := hide E4; clear hown4 hk4)
              | (go_simp; go_wp2_with (go_at_call 116; refine (pick_e p w2.heap.size 2 2 [-1, 5] zs _ _ S2'.out HU.out (by omega) hl (by decide) (by decide) rfl (by omega) (by show w2.heap.size < (w2.alloc (.cells #[.int .i64 (-1), .int .i64 5] 2)).heap.size; simp) CC.out).mono ?_; rintro r w3 ⟨v, hv, rfl, s3, k3⟩; have c3 := (E2'.out.kept k3 (by omega)).1.2.2.2; have c4 : ∀ o, (w3.alloc o).cell? ⟨b1, 3, none⟩ = some (.slice a e.chunks.length c) := (fun o => ((E2'.out.kept k3 (by omega)).below (below_alloc w3 o)).1.2.2.2); have S3 := hide s3; have K3 := hide (K2'.trans k3); have E3 := hide (E2'.out.kept k3 (by omega)); have X3 := hide (X2'.out.kept k3 (by omega)); have O3 := hide (ownsRow_kept O2'.out k3 (fun b hb e => by have := O2'.out.lt b hb; omega)); clear s3 k3))))
          all_goals
            have X4 := hide ((X3.out.below (below_alloc w3 (.cells #[.int .i64 v] 2))).kept K4.out (fun hq => by have := OL.out _ hq; omega))
            have S4 := hide ((S3.out.below (below_alloc w3 (.cells #[.int .i64 v] 2))).kept K4.out (fun b hb hq => by have := OL.out b hq; omega))
            have K5 := hide ((K3.out.alloc (.cells #[.int .i64 v] 2)).trans_own K4.out (fun b hb hq => by have := OL.out b hq; omega))
            have hnl : (e.chunks ++ [v]).length = e.chunks.length + 1 := by simp
            have Q4 : Hid (w4.ownsRow (w.heap.size + 1) 2 1 (.slice av4 (e.chunks ++ [v]).length cv4) (e.chunks ++ [v]).length ((e.chunks ++ [v]).map (Value.int .i64))) := hide (by rw [hnl, List.map_append]; exact O4.out)
            have hne : ∀ b, (Value.slice av4 (e.chunks ++ [v]).length cv4).ownBlock = some b → b ≠ b1 ∧ b ≠ w.heap.size := by
              intro b hb
              have hge := Q4.out.lt b hb
              refine ⟨fun hbb => ?_, by omega⟩
              obtain ⟨g, cap, hv, h1, h2, h3, h4⟩ := ownsRow_ints Q4.out rfl (by omega)
              rw [hv] at hb
              have hg : g = b := by simpa [Value.ownBlock] using hb
              have h5 := h3 0 (by omega)
              rw [hg, hbb, E4.out.1.1] at h5
              cases h5
            clear p0 p1 p2 p3 pf pf3
            obtain ⟨⟨p0, p1, p2, p3⟩, pf⟩ := E4.out
            obtain ⟨⟨q0, q1, q2, q3⟩, qf⟩ := X4.out
            have pf0 := pf 0
            have pf1 := pf 1
            have pf2 := pf 2
            have pf3 := pf 3
            have qf0 := qf 0
            have qf1 := qf 1
            have qf2 := qf 2
            have qf3 := qf 3
            have hlt3 : b1 < w4.heap.size := World.block_lt_of_cell? _ _ p0
            clear pf qf
            go_wp2_with fail
            have hk : Kept (fun b => b = b1 ∨ b = w.heap.size) w4 (((((w4.setCell ⟨b1, 3, none⟩ (.slice av4 (e.chunks.length + 1) cv4)).setCell ⟨w.heap.size, 0, none⟩ (.string (str e.path))).setCell ⟨w.heap.size, 1, none⟩ (.int .i64 e.kind)).setCell ⟨w.heap.size, 2, none⟩ (.int .i64 e.size)).setCell ⟨w.heap.size, 3, none⟩ (.slice av4 (e.chunks.length + 1) cv4)) := Kept.setCell (S := fun b => b = b1 ∨ b = w.heap.size) (p := ⟨w.heap.size, 3, none⟩) (Kept.setCell (S := fun b => b = b1 ∨ b = w.heap.size) (p := ⟨w.heap.size, 2, none⟩) (Kept.setCell (S := fun b => b = b1 ∨ b = w.heap.size) (p := ⟨w.heap.size, 1, none⟩) (Kept.setCell (S := fun b => b = b1 ∨ b = w.heap.size) (p := ⟨w.heap.size, 0, none⟩) (Kept.setCell (S := fun b => b = b1 ∨ b = w.heap.size) (p := ⟨b1, 3, none⟩) (Kept.refl _ _) (fun _ => .inl rfl) _) (fun _ => .inr rfl) _) (fun _ => .inr rfl) _) (fun _ => .inr rfl) _) (fun _ => .inr rfl) _
            refine bodyPost_ret (v := .agg #[(.string (str e.path)), (.int .i64 e.kind), (.int .i64 e.size), (.slice av4 (e.chunks.length + 1) cv4)]) (by simp [results, Tryz.results176, go_sem, q0, q1, q2, q3]) rfl ⟨⟨e.path, e.kind, e.size, e.chunks ++ [v]⟩, av4, cv4, by rw [hnl], ⟨hxl, by rw [hnl]; omega⟩, ?_, (S4.out.kept hk (fun b hb e => by omega)).mono (by omega), K5.out.trans_own hk (fun b hb e => by omega)⟩
            exact ownsRow_mono (ownsRow_kept Q4.out hk (fun b hb hS => by have := hne b hb; omega)) (by omega)
        · have e0 : ((i : Int) == 0) = false := by simp; omega
          have e1 : ((i : Int) == 1) = false := by simp; omega
          have e2 : ((i : Int) == 2) = false := by simp; omega
          have e3 : ((i : Int) == 3) = false := by simp; omega
          clear h0 h1 h2 h3
          have S3 := S2
          have K3 := K2
          have E3 := E2
          have X3 := X2
          have O3 := O2
          obtain ⟨⟨p0, p1, p2, p3⟩, pf⟩ := E3.out
          obtain ⟨⟨q0, q1, q2, q3⟩, qf⟩ := X3.out
          have pf0 := pf 0
          have pf1 := pf 1
          have pf2 := pf 2
          have pf3 := pf 3
          have qf0 := qf 0
          have qf1 := qf 1
          have qf2 := qf 2
          have qf3 := qf 3
          have hlt3 : b1 < w2.heap.size := World.block_lt_of_cell? _ _ p0
          clear pf qf
          go_wp2_with fail
          have hk : Kept (fun b => b = b1 ∨ b = w.heap.size) w2 ((((w2.setCell ⟨w.heap.size, 0, none⟩ (.string (str e.path))).setCell ⟨w.heap.size, 1, none⟩ (.int .i64 e.kind)).setCell ⟨w.heap.size, 2, none⟩ (.int .i64 e.size)).setCell ⟨w.heap.size, 3, none⟩ (.slice a e.chunks.length c)) := Kept.setCell (S := fun b => b = b1 ∨ b = w.heap.size) (p := ⟨w.heap.size, 3, none⟩) (Kept.setCell (S := fun b => b = b1 ∨ b = w.heap.size) (p := ⟨w.heap.size, 2, none⟩) (Kept.setCell (S := fun b => b = b1 ∨ b = w.heap.size) (p := ⟨w.heap.size, 1, none⟩) (Kept.setCell (S := fun b => b = b1 ∨ b = w.heap.size) (p := ⟨w.heap.size, 0, none⟩) (Kept.refl _ _) (fun _ => .inr rfl) _) (fun _ => .inr rfl) _) (fun _ => .inr rfl) _) (fun _ => .inr rfl) _
          refine bodyPost_ret (v := .agg #[(.string (str e.path)), (.int .i64 e.kind), (.int .i64 e.size), (.slice a e.chunks.length c)]) (by simp [results, Tryz.results176, go_sem, q0, q1, q2, q3]) rfl ⟨⟨e.path, e.kind, e.size, e.chunks⟩, a, c, rfl, ⟨by first | exact hyl | exact hxl, by first | exact hc3 | exact hc4⟩, ?_, (S3.out.kept hk (fun b hb e => by omega)).mono (by omega), K3.out.trans_own hk (fun b hb e => by omega)⟩
          exact ownsRow_mono (ownsRow_kept O3.out hk (fun b hb hS => by have := OL.out b hb; omega)) (by omega)

end Go.Proofs.YtejipahfodhmjaaGreat

namespace Go.Proofs.YtejipahfodhmjaaGreat
open Go.RowKit Go.Maps
set_option linter.unusedVariables false
attribute [local go_sem ↓] Go.wp_at_zero Go.wp_at_succ

theorem up_parent {p q : Bs} {i : Nat} (hp : faultP p = 0) (h : (aboveN (cutB p.tail))[i]? = some q) :
    faultP q = 0 ∧ ((parentP q = [] ∧ i = 0) ∨ ∃ j, i = j + 1 ∧ (aboveN (cutB p.tail))[j]? = some (parentP q)) := by
  obtain ⟨ns, hN, hpe, hc, hs⟩ := faultP_zero hp
  rw [hc] at h ⊢
  have hi : i < ns.length - 1 := by have := (List.getElem?_eq_some_iff.1 h).1; rwa [aboveN_length] at this
  have hq : q = joinB (ns.take (i + 1)) := by
    have := h
    unfold aboveN at this
    rw [List.getElem?_map, List.getElem?_range hi] at this
    simpa using this.symm
  have hNt : Names (ns.take (i + 1)) := names_take hN (by omega)
  have hcq : cutB q.tail = ns.take (i + 1) := by rw [hq]; exact cut_join hNt.1 (names_no hNt)
  refine ⟨by rw [hq]; exact faultP_of hNt, ?_⟩
  have hlen : (ns.take (i + 1)).length = i + 1 := by rw [List.length_take]; omega
  have hpar : parentP q = (aboveN (ns.take (i + 1))).getLastD [] := by rw [parentP, hcq]
  cases i with
  | zero =>
    refine .inl ⟨?_, rfl⟩
    rw [hpar, aboveN, hlen]
    rfl
  | succ j =>
    refine .inr ⟨j, rfl, ?_⟩
    rw [hpar]
    unfold aboveN
    rw [hlen, List.getElem?_map, List.getElem?_range (by omega), show j + 1 + 1 - 1 = j + 1 by omega, List.range_succ, List.map_append, List.map_cons, List.map_nil]
    simp [List.getLastD_eq_getLast?, List.take_take]
theorem path_short {p : Bs} (h : faultP p = 0) : p.length ≤ 15 := by
  obtain ⟨ns, hN, hpe, _, _⟩ := faultP_zero h
  have := join_len'' ns 4 hN.2.2.1
  have := hN.2.2.2
  rw [hpe]
  omega
theorem right_small {es : List En} (h : Right es) : SmallE es := fun e he => by
  have h1 := path_short (entFault_zero (h.ent e he))
  have h2 := entFault_chunks (h.ent e he)
  omega
theorem putCode_eq {es : List En} (h : Right es) (e : En) : putCode es e = putCodeP es e := by
  rw [putCode, putCodeP, right_E.2 h, right_P.2 h, homeP_eq h.rise]
theorem GE.keptP {p B : Nat} {w w' : World} {v : Value} {es : List En} (h : GE B w.heap.size w v es) (hk : Kept (fun b => b = p) w w') (hp : p < B) : GE B w'.heap.size w' v es :=
  (h.kept hk (fun b h1 _ e => by omega)).wide hk.size

theorem cells3h (w : World) (a b c : Int) (t : TypeId) : ∀ i, i < 3 → (w.alloc (.cells #[.int .i64 a, .int .i64 b, .int .i64 c] t)).cell? ⟨w.heap.size, i, none⟩ = some (.int .i64 ([a, b, c].getD i 0)) := by
  intro i hi
  match i, hi with
  | 0, _ | 1, _ | 2, _ => simp
def Upto (up : List Bs) (es : List En) (j : Nat) : Prop := es.length < 12 → j = 0 ∨ ∃ q, up[j - 1]? = some q ∧ hasDir es q = true
theorem hasDir_mem {es : List En} {d : En} {q : Bs} (h : d ∈ es) (hq : d.path = q) (hk : dirK d.kind = true) : hasDir es q = true := by
  rw [hasDir, List.any_eq_true]
  exact ⟨d, h, by simp [hq, hk]⟩
theorem hasDir_get {es : List En} {q : Bs} (h : hasDir es q = true) : ∃ d ∈ es, d.path = q ∧ dirK d.kind = true := by
  rw [hasDir, List.any_eq_true] at h
  obtain ⟨d, hd, h⟩ := h
  simp only [Bool.and_eq_true, decide_eq_true_eq] at h
  exact ⟨d, hd, h⟩
theorem put_dir {p q : Bs} {es : List En} {j : Nat} {k : Int} (hp : faultP p = 0) (hq : (aboveN (cutB p.tail))[j]? = some q) (hR : Right es) (hU : Upto (aboveN (cutB p.tail)) es j) (hl : es.length < 12) (hk : k = 2 ∨ k = 4) :
    Right (putE es ⟨q, k, 0, []⟩) ∧ Upto (aboveN (cutB p.tail)) (putE es ⟨q, k, 0, []⟩) (j + 1) := by
  obtain ⟨hf, hpar⟩ := up_parent hp hq
  have hef : entFault ⟨q, k, 0, []⟩ = 0 := bare_right hf (by rcases hk with rfl | rfl <;> decide)
  have hhome : homeP es q = true := by
    rw [homeP_iff]
    rcases hpar with ⟨h0, _⟩ | ⟨i, rfl, hi⟩
    · exact .inl h0
    · rcases hU hl with h | ⟨q', h1, h2⟩
      · omega
      · rw [Nat.add_sub_cancel, hi] at h1
        cases h1
        exact .inr (hasDir_get h2)
  have hlen : (putE es ⟨q, k, 0, []⟩).length ≤ 12 := by
    have : (putE es ⟨q, k, 0, []⟩).length = (baseE es ⟨q, k, 0, []⟩).length + 1 := by
      unfold putE putAt
      rw [List.length_append, List.length_cons, List.length_take, List.length_drop]
      omega
    have := baseE_len es ⟨q, k, 0, []⟩
    omega
  refine ⟨right_put hR hef hhome hlen, fun _ => .inr ⟨q, by rw [Nat.add_sub_cancel]; exact hq, ?_⟩⟩
  exact hasDir_mem (mem_putE.2 (.inl rfl)) rfl (decide_eq_true hk)

set_option maxRecDepth 100000 in
set_option maxHeartbeats 6400000 in
theorem right_e (p : Nat) (zs : List Int) (T : Int) (w : World) (h : SrcX w p zs T) (hu : U8 zs) (hT : T ≤ 500000) (hl : zs.length ≤ 2097152) :
    Calls Tryz.prog 149 #[.pointer (some ⟨p, 0, none⟩)] w fun r w' => ∃ (es : List En) (av : Option Addr) (cv : Nat), r = .returned (.slice av es.length cv) ∧ Right es ∧ GE w.heap.size w'.heap.size w' (.slice av es.length cv) es ∧ SrcX w' p zs (T + 1000) ∧ Kept (fun b => b = p) w w' := by
  have hp := h.lt
  have S0 := hide (h.below (below_alloc w (.cells #[] 40)))
  have G0 := hide (GE.made w)
  have K0 := hide ((Kept.refl (fun b => b = p) w).alloc (.cells #[] 40))
  have HU := hide hu
  clear h hu
  go_enter Tryz.func149, Tryz.ntmps149
  go_wp2_with fail
  refine (next_e p zs T 10 _ S0.out HU.out (by omega) (by decide) (by decide) hl).mono ?_
  rintro r w1 ⟨m0, rfl, hm0, s1, k1⟩
  have S1 := hide s1
  have K1 := hide (K0.out.trans k1)
  have G1 := hide (G0.out.keptP k1 hp)
  clear s1 k1 S0 K0 G0
  go_wp2_with fail
  go_loopw [3, 4] (fun v k wr => ∃ (m : Nat) (es : List En), k = .int .i64 m ∧ m ≤ 9 ∧ Hid (Right es) ∧ Hid (GE w.heap.size wr.heap.size wr v es) ∧ Hid (SrcX wr p zs (T + 1 + 60 * (9 - (m : Int)))) ∧ Hid (Kept (fun b => b = p) w wr)) (fun _ k _ => (intOf k).toNat)
  case atStart => exact ⟨m0, [], rfl, by omega, hide right_nil, G1, hide (S1.out.mono (by omega)), K1⟩
  case round =>
    obtain ⟨m, es, rfl, hm9, HRi, HG, HSr, HK⟩ := hrel
    obtain ⟨lv, lc, hv⟩ := HG.out.shape
    subst hv
    by_cases hm : 0 < m
    · have hm' : (0 : Int) < (m : Int) := by omega
      have hwr := HK.out.size
      go_wp2_with fail
      refine (drawEntry_e p zs _ _ HSr.out HU.out (by omega) hl).mono ?_
      rintro r w2 ⟨e, a, c, rfl, ⟨hef, hxl⟩, ho2, s2, k2⟩
      have hpz := entFault_zero hef
      have AE := hide (below_alloc w2 (.cells #[.string (str e.path), .int .i64 e.kind, .int .i64 e.size, .slice a e.chunks.length c] 40))
      have F2 := hide (Four.new w2 (.string (str e.path)) (.int .i64 e.kind) (.int .i64 e.size) (.slice a e.chunks.length c) 40)
      have S2 := hide (s2.below AE.out)
      have K2 := hide ((HK.out.trans k2).alloc (.cells #[.string (str e.path), .int .i64 e.kind, .int .i64 e.size, .slice a e.chunks.length c] 40))
      have G2 := hide (((HG.out.keptP k2 hp).below AE.out).wide AE.out.size)
      have R2 := hide ((ownInts_reads ho2 rfl).below AE.out)
      have hRb := hide (fun b (hb : (Value.slice a e.chunks.length c).ownBlock = some b) => (ho2.lt b hb).1)
      have HEF := hide hef
      have HPZ := hide hpz
      have hs2 := k2.size
      clear s2 k2 ho2 HG HSr HK hef
      have hcl : e.chunks.length ≤ 3 := entFault_chunks HEF.out
      go_wp2_with fail
      have hb2 : w2.heap.size < (w2.alloc (.cells #[.string (str e.path), .int .i64 e.kind, .int .i64 e.size, .slice a e.chunks.length c] 40)).heap.size := F2.out.lt
      generalize w2.alloc (.cells #[.string (str e.path), .int .i64 e.kind, .int .i64 e.size, .slice a e.chunks.length c] 40) = W2 at *
      obtain ⟨b2, hb2e⟩ : ∃ b2, b2 = w2.heap.size := ⟨_, rfl⟩
      rw [← hb2e] at F2 hb2 hs2 ⊢
      clear hb2e AE
      refine (l3Above_any _ _ (by rw [str_size]; exact path_pos hpz) (by rw [str_size]; omega)).mono ?_
      rintro r w3 ⟨uv, rfl, hO3, hb3⟩
      rw [str_data] at hO3
      obtain ⟨ua, uc, rfl⟩ := hO3.shape
      have UR := hide hO3.reads
      have hUB := hide (fun b hb => (hO3.lt b hb).1)
      have F3 := hide (F2.out.below hb3)
      have S3 := hide (S2.out.below hb3)
      have K3 := hide (K2.out.trans (Kept.of_below hb3))
      have G3 := hide ((G2.out.below hb3).wide hb3.size)
      have R3 := hide (R2.out.below hb3)
      have hs3 := hb3.size
      clear hb3 hO3 F2 S2 K2 G2 R2 hpz
      have hul : (aboveN (cutB e.path.tail)).length ≤ 2 := by
        obtain ⟨ns, hN, _, hc, _⟩ := faultP_zero HPZ.out
        rw [hc, aboveN_length]
        have := hN.2.2.2
        omega
      have hpw3 : p < w3.heap.size := S3.out.lt
      obtain ⟨up, hup⟩ : ∃ up, up = aboveN (cutB e.path.tail) := ⟨_, rfl⟩
      rw [← hup] at UR hUB hul ⊢
      have HUPE := hide hup
      clear hup
      go_wp2_with fail
      go_loopw [3, 7] (fun v i wr2 => ∃ (j : Nat) (fs : List En), i = .int .i64 j ∧ j ≤ up.length ∧ Hid (Right fs) ∧ Hid (Upto (aboveN (cutB e.path.tail)) fs j) ∧ Hid (GE w.heap.size wr2.heap.size wr2 v fs) ∧ Hid (SrcX wr2 p zs (T + 1 + 60 * (9 - (m : Int)) + 30 + j)) ∧ Hid (Kept (fun b => b = p) w3 wr2)) (fun _ i _ => up.length - (intOf i).toNat)
      case atStart => exact ⟨0, es, rfl, Nat.zero_le _, HRi, hide (fun _ => .inl rfl), G3, hide (by simpa using S3.out), hide (Kept.refl _ _)⟩
      case round =>
        obtain ⟨j, fs, rfl, hj, HR2, HUp, HG2, HS2, HK2⟩ := hrel
        obtain ⟨fv, fc, hv⟩ := HG2.out.shape
        subst hv
        have hf12 := HR2.out.len
        have hsz2 := HK2.out.size
        have UR2 := hide (UR.out.kept HK2.out (fun hz x hx e => by subst hx; have := hUB.out x.block rfl; omega))
        by_cases hlt : j < up.length
        · obtain ⟨bu, ou, q, rfl, hbu, hqu, hcq⟩ := UR2.out.at hlt
          have hbup : bu ≠ p := by have := hUB.out bu rfl; omega
          have hq : (aboveN (cutB e.path.tail))[j]? = some q := by rw [← HUPE.out]; exact hqu
          have HFQ := hide (up_parent HPZ.out hq).1
          clear hqu
          go_wp2_with fail
          refine (l4At_any fv fc fs.length fs q _ HG2.out.rd rfl (by omega)).mono ?_
          rintro r wr2 ⟨rfl, rfl⟩
          cases hat : atE fs q with
          | none =>
            simp only [placeI]
            by_cases hl12 : fs.length < 12
            · have hl12' : (fs.length : Int) < 12 := by omega
              have BD := hide ((below_alloc wr2 (.cells #[.int .i64 2, .int .i64 2, .int .i64 4] 2)).drew)
              have S5 := hide (HS2.out.below BD.out)
              have K5 := ((HK2.out.alloc (.cells #[.int .i64 2, .int .i64 2, .int .i64 4] 2)).drew)
              have G5 := hide ((HG2.out.below BD.out).wide BD.out.size)
              have CC : Hid (∀ i, i < 3 → (wr2.alloc (.cells #[.int .i64 2, .int .i64 2, .int .i64 4] 2)).drew.cell? ⟨wr2.heap.size, i, none⟩ = some (.int .i64 (([2, 2, 4] : List Int).getD i 0))) := hide (cells3h wr2 2 2 4 2)
              have cqd := (BD.out.cell (p := ⟨bu, ou + j, none⟩) hbu).trans hcq
              have HFS := hide (right_small HR2.out)
              go_wp2_with fail
              go_region_held3 (fun w' => w'.cell? ⟨bu, ou + j, none⟩ = some (.string (str q))) (first | exact c6 | exact c7 | go_keep)
                ((first
                  | (go_at_call 116; refine (pick_e p wr2.heap.size 3 3 [2, 2, 4] zs _ _ S5.out HU.out (by omega) hl (by decide) (by decide) rfl (by omega) (by show wr2.heap.size < (wr2.alloc (.cells #[.int .i64 2, .int .i64 2, .int .i64 4] 2)).heap.size; simp) CC.out).mono ?_; rintro r w6 ⟨kv, hkv, rfl, s6, k6⟩; have hlt6 : bu < (wr2.alloc (.cells #[.int .i64 2, .int .i64 2, .int .i64 4] 2)).drew.heap.size := (Nat.lt_of_lt_of_le hbu BD.out.size); have c6 := (k6.cell (p := ⟨bu, ou + j, none⟩) hlt6 (by omega)).trans cqd; have hlt7 : bu < w6.heap.size := Nat.lt_of_lt_of_le hlt6 k6.size; have S6 := hide s6; have K6 := hide (K5.trans k6); have G6 := hide (G5.out.keptP k6 hp); have HKV := hide (show kv = 2 ∨ kv = 4 from by simp at hkv; omega); have hs6 := k6.size; clear s6 k6 hkv)
                  | (go_at_call 174; refine (l4Put_any fv fc fs.length fs ⟨q, kv, 0, []⟩ none 0 0 _ G6.out.rd rfl (by omega) HFS.out rfl (fun h => absurd rfl h) (by show q.length ≤ 1048576; have := path_short HFQ.out; omega) (by simp)).mono ?_; rintro r w7 ⟨g7, cv7, rfl, hG7, hb7⟩; have c7 := (hb7.cell (p := ⟨bu, ou + j, none⟩) hlt7).trans c6; have S7 := hide (S6.out.below hb7); have K7 := hide (K6.out.trans (Kept.of_below hb7)); have G7 := hide (hG7.mono (B' := w.heap.size) (by have := K6.out.size; have := K3.out.size; omega)); clear hG7 hb7)))
              have HPD := hide (put_dir (k := kv) HPZ.out hq HR2.out HUp.out hl12 HKV.out)
              go_wp2_with fail
              go_roundw
              case rel => exact ⟨j + 1, putE fs ⟨q, kv, 0, []⟩, by go_num, by omega, hide HPD.out.1, hide HPD.out.2, G7, hide (S7.out.mono (by omega)), K7⟩
              case measure => simp [intOf]; omega
            · have hl12' : ¬ (fs.length : Int) < 12 := by omega
              go_wp2_with fail
              go_roundw
              case rel => exact ⟨j + 1, fs, by go_num, by omega, HR2, hide (fun h => absurd h (by omega)), HG2, hide (HS2.out.mono (by omega)), HK2⟩
              case measure => simp [intOf]; omega
          | some k =>
            have hkl := atE_lt hat
            have hfk := atE_find fs q
            rw [hat] at hfk
            obtain ⟨bf, off, d, xd, cd, rfl, hbf, hd, d0, d1, d2, d3, hrd⟩ := HG2.out.rd.at hkl
            rw [Option.bind_some, hd] at hfk
            obtain ⟨hdm, hdp⟩ := find_mem hfk
            simp only [placeI]
            have hk0 : ¬ (k : Int) < 0 := by omega
            have hk1 : (k : Int) < (fs.length : Int) := by omega
            clear hfk hrd d0 d2 d3 hat
            cases hdk : dirK d.kind
            · go_wp2_with fail
              refine (l4IsDir_any _ _ d.kind _ d1).mono ?_
              rintro r wr2 ⟨rfl, rfl⟩
              rw [hdk]
              clear d1
              obtain ⟨fv, hfv⟩ : ∃ fv : Option Addr, fv = some ⟨bf, off, none⟩ := ⟨_, rfl⟩
              rw [← hfv] at HG2 ⊢
              clear hfv
              by_cases hl12 : fs.length < 12
              · have hl12' : (fs.length : Int) < 12 := by omega
                have BD := hide ((below_alloc wr2 (.cells #[.int .i64 2, .int .i64 2, .int .i64 4] 2)).drew)
                have S5 := hide (HS2.out.below BD.out)
                have K5 := ((HK2.out.alloc (.cells #[.int .i64 2, .int .i64 2, .int .i64 4] 2)).drew)
                have G5 := hide ((HG2.out.below BD.out).wide BD.out.size)
                have CC : Hid (∀ i, i < 3 → (wr2.alloc (.cells #[.int .i64 2, .int .i64 2, .int .i64 4] 2)).drew.cell? ⟨wr2.heap.size, i, none⟩ = some (.int .i64 (([2, 2, 4] : List Int).getD i 0))) := hide (cells3h wr2 2 2 4 2)
                have cqd := (BD.out.cell (p := ⟨bu, ou + j, none⟩) hbu).trans hcq
                have HFS := hide (right_small HR2.out)
                go_wp2_with fail
                go_region_held3 (fun w' => w'.cell? ⟨bu, ou + j, none⟩ = some (.string (str q))) (first | exact c6 | exact c7 | go_keep)
                  ((first
                    | (go_at_call 116; refine (pick_e p wr2.heap.size 3 3 [2, 2, 4] zs _ _ S5.out HU.out (by omega) hl (by decide) (by decide) rfl (by omega) (by show wr2.heap.size < (wr2.alloc (.cells #[.int .i64 2, .int .i64 2, .int .i64 4] 2)).heap.size; simp) CC.out).mono ?_; rintro r w6 ⟨kv, hkv, rfl, s6, k6⟩; have hlt6 : bu < (wr2.alloc (.cells #[.int .i64 2, .int .i64 2, .int .i64 4] 2)).drew.heap.size := (Nat.lt_of_lt_of_le hbu BD.out.size); have c6 := (k6.cell (p := ⟨bu, ou + j, none⟩) hlt6 (by omega)).trans cqd; have hlt7 : bu < w6.heap.size := Nat.lt_of_lt_of_le hlt6 k6.size; have S6 := hide s6; have K6 := hide (K5.trans k6); have G6 := hide (G5.out.keptP k6 hp); have HKV := hide (show kv = 2 ∨ kv = 4 from by simp at hkv; omega); have hs6 := k6.size; clear s6 k6 hkv)
                    | (go_at_call 174; refine (l4Put_any fv fc fs.length fs ⟨q, kv, 0, []⟩ none 0 0 _ G6.out.rd rfl (by omega) HFS.out rfl (fun h => absurd rfl h) (by show q.length ≤ 1048576; have := path_short HFQ.out; omega) (by simp)).mono ?_; rintro r w7 ⟨g7, cv7, rfl, hG7, hb7⟩; have c7 := (hb7.cell (p := ⟨bu, ou + j, none⟩) hlt7).trans c6; have S7 := hide (S6.out.below hb7); have K7 := hide (K6.out.trans (Kept.of_below hb7)); have G7 := hide (hG7.mono (B' := w.heap.size) (by have := K6.out.size; have := K3.out.size; omega)); clear hG7 hb7)))
                have HPD := hide (put_dir (k := kv) HPZ.out hq HR2.out HUp.out hl12 HKV.out)
                go_wp2_with fail
                go_roundw
                case rel => exact ⟨j + 1, putE fs ⟨q, kv, 0, []⟩, by go_num, by omega, hide HPD.out.1, hide HPD.out.2, G7, hide (S7.out.mono (by omega)), K7⟩
                case measure => simp [intOf]; omega
              · have hl12' : ¬ (fs.length : Int) < 12 := by omega
                go_wp2_with fail
                go_roundw
                case rel => exact ⟨j + 1, fs, by go_num, by omega, HR2, hide (fun h => absurd h (by omega)), HG2, hide (HS2.out.mono (by omega)), HK2⟩
                case measure => simp [intOf]; omega
            · have HUq := hide (show Upto (aboveN (cutB e.path.tail)) fs (j + 1) from fun _ => .inr ⟨q, by rw [Nat.add_sub_cancel]; exact hq, hasDir_mem hdm hdp hdk⟩)
              go_wp2_with fail
              refine (l4IsDir_any _ _ d.kind _ d1).mono ?_
              rintro r wr2 ⟨rfl, rfl⟩
              rw [hdk]
              clear d1
              go_wp2_with fail
              go_roundw
              case rel => exact ⟨j + 1, fs, by go_num, by omega, HR2, HUq, HG2, hide (HS2.out.mono (by omega)), HK2⟩
              case measure => simp [intOf]; omega
        · have F9 := F3.out
          have R9 := hide (R3.out.kept HK2.out (fun hz x hx e => by subst hx; have := hRb.out x.block rfl; omega))
          have hbw3 : b2 < w3.heap.size := F3.out.lt
          have n0 : ¬ b2 = p := by omega
          have g0 := (HK2.out.cell (p := ⟨b2, 0, none⟩) hbw3 n0).trans F9.1
          have g1 := (HK2.out.cell (p := ⟨b2, 1, none⟩) hbw3 n0).trans F9.2.1
          have g2 := (HK2.out.cell (p := ⟨b2, 2, none⟩) hbw3 n0).trans F9.2.2.1
          have g3 := (HK2.out.cell (p := ⟨b2, 3, none⟩) hbw3 n0).trans F9.2.2.2
          clear F9
          go_wp2_with fail
          refine (specPutEntry_any fv fc fs.length fs e a e.chunks.length c _ HG2.out.rd rfl (by omega) (right_small HR2.out) rfl R9.out (by omega) (by omega)).mono ?_
          rintro r w5 ⟨av5, cv5, rfl, hG5, hb5⟩
          have HPE := hide (putCode_eq HR2.out e)
          have AR := hide (below_alloc w5 (.cells #[.int .i64 (putCode fs e), .slice av5 (putList fs e).length cv5] 37))
          have S9 := hide ((HS2.out.below hb5).below AR.out)
          have K9 := hide (((K3.out.trans HK2.out).trans (Kept.of_below hb5)).alloc (.cells #[.int .i64 (putCode fs e), .slice av5 (putList fs e).length cv5] 37))
          have GO := hide ((((HG2.out.below hb5).wide hb5.size).below AR.out).wide AR.out.size)
          have GN := hide (((hG5.mono (B' := w.heap.size) (by have := K3.out.size; omega)).below AR.out).wide AR.out.size)
          clear hG5 hb5 g0 g1 g2 g3
          by_cases hc : putCode fs e = 0
          · have hcP : putCodeP fs e = 0 := by rw [← HPE.out]; exact hc
            have hPL : putList fs e = putE fs e := by rw [putList, if_pos hc]
            have HRN := hide (putP_zero hcP).2.2.2.2
            rw [hc, hPL] at S9 K9 GO GN AR ⊢
            clear hc hcP hPL
            go_wp2_with fail
            go_roundw
            case rel => exact ⟨m - 1, putE fs e, by go_num, by omega, HRN, GN, hide (S9.out.mono (by omega)), K9⟩
            case measure => simp [intOf]; omega
          · have hcn : (putCode fs e == 0) = false := by simp; exact hc
            clear hc
            generalize putCode fs e = pc at *
            generalize putList fs e = pl at *
            go_wp2_with fail
            go_roundw
            case rel => exact ⟨m - 1, fs, by go_num, by omega, HR2, GO, hide (S9.out.mono (by omega)), K9⟩
            case measure => simp [intOf]; omega
    · have hm' : ¬ (0 : Int) < (m : Int) := by omega
      go_wp2_with fail
      go_ret
      exact ⟨es, lv, lc, rfl, HRi.out, HG.out, HSr.out.mono (by omega), HK.out⟩

end Go.Proofs.YtejipahfodhmjaaGreat

namespace Go.Proofs.YtejipahfodhmjaaGreat
set_option linter.unusedVariables false

def Good (es : List En) : Prop := layFaultP es = layFault es
theorem good_many {es : List En} (h : 12 < es.length) : Good es := by rw [Good, layFaultP_many h, layFault_many h]
theorem good_of {es : List En} (h : ¬ 12 < es.length) (hh : layFromH (homeP es) none es = layFromH (homeE es) none es) : Good es := by
  rw [Good, layFaultP, layFault, if_neg h, if_neg h, layFrom_H, hh]
theorem parent_ne {p : Bs} (h : faultP p = 0) (h0 : parentP p ≠ []) : parentP p ≠ p := by
  have := below_len (parent_above h h0).2
  intro e
  rw [e] at this
  omega
end Go.Proofs.YtejipahfodhmjaaGreat

namespace Go.Proofs.YtejipahfodhmjaaGreat
set_option linter.unusedVariables false

def treeK (k : Int) : Bool := decide (k = 1 ∨ k = 2)
def GoodH (es : List En) : Prop := layFromH (homeP es) none es = layFromH (homeE es) none es
theorem GoodH.good {es : List En} (h : GoodH es) : Good es := by
  by_cases hl : 12 < es.length
  · exact good_many hl
  · exact good_of hl h
theorem goodH_rise {es : List En} (h : Rise es) : GoodH es := layFromH_congr (fun x hx _ => homeP_eq h x.path)
theorem goodH_snoc {es : List En} {e : En} (hr : Rise es) (hh : ∀ x ∈ es, homeP es x.path = true) : GoodH (es ++ [e]) := by
  refine layFromH_congr (fun x hx hxe => ?_)
  rcases List.mem_append.1 hx with hx | hx
  · have h1 := hh x hx
    have h2 : homeP (es ++ [e]) x.path = true := by
      rw [homeP_iff] at h1 ⊢
      rcases h1 with h1 | ⟨d, hd, h1⟩
      · exact .inl h1
      · exact .inr ⟨d, List.mem_append_left _ hd, h1⟩
    rw [h2]
    symm
    rw [homeP_eq hr] at h1
    unfold homeE at h1 ⊢
    by_cases h0 : parentP x.path = []
    · simp [h0]
    · rw [if_neg h0] at h1 ⊢
      cases hf : findE es (parentP x.path) with
      | none => rw [hf] at h1; simp at h1
      | some d =>
        rw [hf] at h1
        have : findE (es ++ [e]) (parentP x.path) = some d := by
          rw [findE, List.find?_append]
          have hf' : List.find? (fun y : En => decide (y.path = parentP x.path)) es = some d := hf
          rw [hf']
          rfl
        rw [this]
        exact h1
  · simp only [List.mem_singleton] at hx
    subst hx
    by_cases h0 : parentP x.path = []
    · simp [homeP, homeE, h0]
    · have hne := parent_ne (entFault_zero hxe) h0
      have e1 : homeP (es ++ [x]) x.path = homeP es x.path := by
        simp [homeP, h0, hasDir, hne.symm]
      have e2 : homeE (es ++ [x]) x.path = homeE es x.path := by
        have : findE (es ++ [x]) (parentP x.path) = findE es (parentP x.path) := by
          simp [findE, List.find?_append, hne.symm]
        simp only [homeE, this]
      rw [e1, e2, homeP_eq hr]
theorem goodH_set {r0 e : En} {tl : List En} (h : Right (r0 :: tl)) : GoodH (e :: tl) := by
  have hrt : Rise tl := (List.pairwise_cons.1 h.rise).2
  by_cases hr : Rise (e :: tl)
  · exact goodH_rise hr
  · have hb : entBadH (homeP (e :: tl)) none e = entBadH (homeE (e :: tl)) none e := by
      unfold entBadH
      by_cases he : entFault e = 0
      · have : homeP (e :: tl) e.path = homeE (e :: tl) e.path := by
          by_cases h0 : parentP e.path = []
          · simp [homeP, homeE, h0]
          · have hne := parent_ne (entFault_zero he) h0
            have e1 : homeP (e :: tl) e.path = homeP tl e.path := by simp [homeP, h0, hasDir, hne.symm]
            have e2 : homeE (e :: tl) e.path = homeE tl e.path := by
              have : findE (e :: tl) (parentP e.path) = findE tl (parentP e.path) := by simp [findE, hne.symm]
              simp only [homeE, this]
            rw [e1, e2, homeP_eq hrt]
        rw [this]
      · simp [he]
    unfold GoodH
    simp only [layFromH]
    rw [hb]
    by_cases hz : entBadH (homeE (e :: tl)) none e = 0
    · rw [if_pos hz, if_pos hz]
      cases tl with
      | nil => rfl
      | cons t1 r =>
        have ht : entFault t1 = 0 := h.ent t1 (by simp)
        have hlow : lowE (some e) t1 = true := by
          cases hlo : lowE (some e) t1
          · exfalso
            refine hr (List.pairwise_cons.2 ⟨fun y hy => ?_, hrt⟩)
            have h1 := lowE_some hlo
            rcases List.mem_cons.1 hy with rfl | hy
            · exact h1
            · exact bl_trans _ _ _ h1 ((List.pairwise_cons.1 hrt).1 y hy)
          · rfl
        simp only [layFromH]
        have b1 : ∀ H : Bs → Bool, entBadH H (some e) t1 = 1 := fun H => by simp [entBadH, ht, hlow]
        rw [b1, b1]
        rfl
    · rw [if_neg hz, if_neg hz]
theorem goodH_first {e : En} {tl : List En} (h : entFault e ≠ 0) : GoodH (e :: tl) := by
  have b1 : ∀ H : Bs → Bool, entBadH H none e = entFault e := fun H => by simp [entBadH, h]
  unfold GoodH
  simp only [layFromH, b1, if_neg h]

theorem parent_take {ns : List Bs} (h : 1 < ns.length) : (aboveN ns).getLastD [] = joinB (ns.take (ns.length - 1)) := by
  obtain ⟨m, hm⟩ : ∃ m, ns.length - 1 = m + 1 := ⟨ns.length - 2, by omega⟩
  unfold aboveN
  rw [hm, List.range_succ, List.map_append, List.getLastD_eq_getLast?]
  simp
theorem below_step {x p : Bs} (hx : faultP x = 0) (hp : faultP p = 0) (h : belowB x p = true) : parentP x ≠ [] ∧ (parentP x = p ∨ belowB (parentP x) p = true) := by
  have hm := (above_iff hx).2 ⟨hp, h⟩
  have hne : aboveN (cutB x.tail) ≠ [] := fun e => by rw [e] at hm; simp at hm
  have h0 : parentP x ≠ [] := fun e => hne (parentP_nil.1 e)
  refine ⟨h0, ?_⟩
  obtain ⟨ns, hN, hxe, hc, -⟩ := faultP_zero hx
  rw [hc] at hm hne
  obtain ⟨k, hk0, hk1, hpk⟩ := mem_aboveN.1 hm
  have hpar : parentP x = joinB (ns.take (ns.length - 1)) := by unfold parentP; rw [hc]; exact parent_take (by omega)
  by_cases hk : k = ns.length - 1
  · exact .inl (by rw [hpar, hpk, hk])
  · refine .inr ?_
    have hT : Names (ns.take (ns.length - 1)) := names_take hN (by omega)
    have hf := faultP_of hT
    rw [hpar]
    refine ((above_iff hf).1 ?_).2
    rw [cut_of hT, mem_aboveN]
    refine ⟨k, hk0, by rw [List.length_take]; omega, ?_⟩
    rw [hpk, List.take_take, Nat.min_eq_left (by omega)]
end Go.Proofs.YtejipahfodhmjaaGreat

namespace Go.Proofs.YtejipahfodhmjaaGreat
open Go.RowKit Go.Maps
set_option linter.unusedVariables false

theorem rowR_set3 : ∀ (rs : List Rw) (j : Nat) (r : Rw) (e' : En), rs[j]? = some r → e'.chunks.length = r.e.chunks.length →
    (((rowR rs).set (j * 4) (.string (str e'.path))).set (j * 4 + 1) (.int .i64 e'.kind)).set (j * 4 + 2) (.int .i64 e'.size) = rowR (rs.set j ⟨e', r.a, r.c⟩)
  | [], j, r, e', h, _ => by simp at h
  | x :: rs, 0, r, e', h, hl => by
    simp only [List.getElem?_cons_zero, Option.some.injEq] at h
    subst h
    simp [rowR, cellsR, hl]
  | x :: rs, j + 1, r, e', h, hl => by
    have ih := rowR_set3 rs j r e' (by simpa using h) hl
    have e1 : rowR (x :: rs) = cellsR x ++ rowR rs := rfl
    have e2 : rowR ((x :: rs).set (j + 1) ⟨e', r.a, r.c⟩) = cellsR x ++ rowR (rs.set j ⟨e', r.a, r.c⟩) := rfl
    have hx : (cellsR x).length = 4 := rfl
    rw [e1, e2, ← ih, List.set_append_right _ _ (by omega), List.set_append_right _ _ (by omega), List.set_append_right _ _ (by omega), hx]
    rw [show (j + 1) * 4 - 4 = j * 4 by omega, show (j + 1) * 4 + 1 - 4 = j * 4 + 1 by omega, show (j + 1) * 4 + 2 - 4 = j * 4 + 2 by omega]

theorem GE.open {B T : Nat} {w : World} {a : Option Addr} {n c : Nat} {es : List En} {j : Nat} {e : En} (h : GE B T w (.slice a n c) es) (he : es[j]? = some e) :
    ∃ (G : Nat) (x : Option Addr) (y : Nat), a = some ⟨G, 0, none⟩ ∧ B ≤ G ∧ G < T ∧ w.cell? ⟨G, j * 4, none⟩ = some (.string (str e.path)) ∧ w.cell? ⟨G, j * 4 + 1, none⟩ = some (.int .i64 e.kind) ∧ w.cell? ⟨G, j * 4 + 2, none⟩ = some (.int .i64 e.size) ∧ w.cell? ⟨G, j * 4 + 3, none⟩ = some (.slice x e.chunks.length y) ∧
      (∀ i, w.frozen? ⟨G, i, none⟩ = false) ∧ Own .i64 w x e.chunks ∧ (∀ b, blkOf x b → B ≤ b ∧ b < T ∧ b ≠ G) ∧
      ∀ (e' : En) (w2 : World), e'.chunks.length = e.chunks.length → Own .i64 w2 x e'.chunks → Kept (blkOf x) (((w.setCell ⟨G, j * 4, none⟩ (.string (str e'.path))).setCell ⟨G, j * 4 + 1, none⟩ (.int .i64 e'.kind)).setCell ⟨G, j * 4 + 2, none⟩ (.int .i64 e'.size)) w2 →
        SameShape (((w.setCell ⟨G, j * 4, none⟩ (.string (str e'.path))).setCell ⟨G, j * 4 + 1, none⟩ (.int .i64 e'.kind)).setCell ⟨G, j * 4 + 2, none⟩ (.int .i64 e'.size)) w2 →
        GE B T w2 (.slice a n c) (es.set j e') := by
  obtain ⟨rs, hrs, h1, h2, h3, h4, h5⟩ := h
  have hj := (List.getElem?_eq_some_iff.1 he).1
  have hl : rs.length = es.length := by rw [← hrs, List.length_map]
  obtain ⟨r, hr⟩ : ∃ r, rs[j]? = some r := ⟨rs[j]'(by omega), List.getElem?_eq_getElem (by omega)⟩
  have hre : r.e = e := by
    have : (rs.map Rw.e)[j]? = some r.e := by rw [List.getElem?_map, hr]; rfl
    rw [hrs, he] at this
    exact (Option.some.inj this).symm
  rcases h1.2 with ⟨_, h0⟩ | ⟨G, cap, cur, h', hb, hh, hnc, hcm, hcs, htake⟩
  · omega
  · simp only [Value.slice.injEq] at h'
    obtain ⟨rfl, rfl, rfl⟩ := h'
    have hc := fun q hq => (h1.cellAt (j * 4 + q) (by omega)).trans (rowR_get rs j q r hr hq)
    have hm := List.mem_of_getElem? hr
    have hne : ∀ b, blkOf r.a b → b ≠ G := fun b hb e => ownsRow_apart h1 (h2 r hm) (by decide) (by subst e; rfl) (block_own hb)
    refine ⟨G, r.a, r.c, rfl, hb, h5 G rfl, ?_, ?_, ?_, ?_, fun i => h1.frozenAt i, ?_, fun b hb => ⟨((h2 r hm).lt b (block_own hb)).1, h4 r hm b hb, hne b hb⟩, ?_⟩
    · have := hc 0 (by decide); rw [← hre]; first | (simp [cellsR]; done) | (simpa [cellsR] using this)
    · have := hc 1 (by decide); rw [← hre]; first | (simp [cellsR]; done) | (simpa [cellsR] using this)
    · have := hc 2 (by decide); rw [← hre]; first | (simp [cellsR]; done) | (simpa [cellsR] using this)
    · have := hc 3 (by decide); rw [← hre]; first | (simp [cellsR]; done) | (simpa [cellsR] using this)
    · rw [← hre]; exact ownsRow_own (h2 r hm) rfl
    · intro e' w2 hlen ho hk hs
      have hlen' : e'.chunks.length = r.e.chunks.length := by rw [hre]; exact hlen
      have s1 := (((h1.stored (j * 4) (.string (str e'.path))).1.stored (j * 4 + 1) (.int .i64 e'.kind)).1.stored (j * 4 + 2) (.int .i64 e'.size)).1
      rw [rowR_set3 rs j r e' hr hlen'] at s1
      have hmapa : (rs.set j ⟨e', r.a, r.c⟩).map Rw.a = rs.map Rw.a := by
        rw [List.map_set]
        apply List.ext_getElem?
        intro i
        by_cases hi : i = j
        · subst hi; rw [List.getElem?_set_self (by simp; omega), List.getElem?_map, hr]; rfl
        · rw [List.getElem?_set_ne (fun e => hi e.symm)]
      have hk1 : Kept (fun b => b = G) w (((w.setCell ⟨G, j * 4, none⟩ (.string (str e'.path))).setCell ⟨G, j * 4 + 1, none⟩ (.int .i64 e'.kind)).setCell ⟨G, j * 4 + 2, none⟩ (.int .i64 e'.size)) :=
        Kept.setCell (S := fun b => b = G) (p := ⟨G, j * 4 + 2, none⟩) (Kept.two _ _ _ _ _ _) (fun _ => rfl) _
      refine ⟨rs.set j ⟨e', r.a, r.c⟩, by rw [List.map_set, hrs], ?_, ?_, ?_, ?_, h5⟩
      · rw [List.length_set]
        exact ownsRow_kept s1 hk (fun b hb hS => hne b hS (by simpa [Value.ownBlock, eq_comm] using hb))
      · intro r0 hr0
        obtain ⟨i, hi⟩ := List.mem_iff_getElem?.1 hr0
        by_cases e : i = j
        · subst e
          rw [List.getElem?_set_self (by omega)] at hi
          simp only [Option.some.injEq] at hi
          subst hi
          have r1 : (((w.setCell ⟨G, i * 4, none⟩ (.string (str e'.path))).setCell ⟨G, i * 4 + 1, none⟩ (.int .i64 e'.kind)).setCell ⟨G, i * 4 + 2, none⟩ (.int .i64 e'.size)).ownsRow B 2 1 (.slice r.a r.e.chunks.length r.c) r.e.chunks.length (r.e.chunks.map (Value.int .i64)) :=
            ownsRow_kept (h2 r hm) hk1 (fun b hb e => ownsRow_apart h1 (h2 r hm) (by decide) (by subst e; rfl) hb)
          show w2.ownsRow B 2 1 (.slice r.a e'.chunks.length r.c) e'.chunks.length (e'.chunks.map (Value.int .i64))
          rw [hlen']
          rcases (h2 r hm).2 with ⟨h', h0⟩ | ⟨g, cap', cur', h', _⟩
          · simp only [Value.slice.injEq] at h'
            have e1 : e'.chunks = [] := List.eq_nil_of_length_eq_zero (by omega)
            rw [h'.1, h'.2.2, h0, e1]
            exact World.ownsRow_nil _ _ _ _
          · simp only [Value.slice.injEq, true_and] at h'
            obtain ⟨hA, hC⟩ := h'
            rw [hA] at r1 ho ⊢
            refine own_back r1 hs (by simp [hlen']) (fun t ht => ?_)
            obtain ⟨b, off, e1, hb, hc⟩ := ho (by intro e; rw [e] at hlen'; simp at hlen'; omega)
            simp only [Option.some.injEq, Addr.mk.injEq, and_true] at e1
            obtain ⟨rfl, rfl⟩ := e1
            have := (hc t (by omega)).1
            rw [Nat.zero_add] at this
            rw [this]
            have ht2 : t < e'.chunks.length := by omega
            simp [List.getD_eq_getElem?_getD, ht2]
        · rw [List.getElem?_set_ne (fun x => e x.symm)] at hi
          have hm0 := List.mem_of_getElem? hi
          have r1 := ownsRow_kept (h2 r0 hm0) hk1 (fun b hb e => ownsRow_apart h1 (h2 r0 hm0) (by decide) (by subst e; rfl) hb)
          refine ownsRow_kept r1 hk (fun b hb hS => ?_)
          have hi' := (List.getElem?_eq_some_iff.1 hi)
          have hj' := (List.getElem?_eq_some_iff.1 hr)
          have hb0 := own_block hb
          rcases Nat.lt_or_gt_of_ne e with hlt | hlt
          · have := List.pairwise_iff_getElem.1 h3 i j hi'.1 hj'.1 hlt b (by rw [hi'.2]; exact hb0)
            rw [hj'.2] at this
            exact this hS
          · have := List.pairwise_iff_getElem.1 h3 j i hj'.1 hi'.1 hlt b (by rw [hj'.2]; exact hS)
            rw [hi'.2] at this
            exact this hb0
      · have : (rs.map Rw.a).Pairwise (fun x y => ∀ g, x.map Addr.block = some g → y.map Addr.block ≠ some g) := List.pairwise_map.2 h3
        rw [← hmapa] at this
        exact List.pairwise_map.1 this
      · intro r0 hr0 g hg
        have : r0.a ∈ (rs.set j ⟨e', r.a, r.c⟩).map Rw.a := List.mem_map_of_mem hr0
        rw [hmapa] at this
        obtain ⟨r2, hr2, e2⟩ := List.mem_map.1 this
        exact h4 r2 hr2 g (by rw [e2]; exact hg)

end Go.Proofs.YtejipahfodhmjaaGreat

namespace Go.Proofs.YtejipahfodhmjaaGreat
open Go.ChangeShapes Go.WideShapes Go.ChangeAt Go.RowKit
set_option linter.unusedVariables false

def zEn : En := ⟨[], 0, 0, []⟩
theorem rowR_set4 : ∀ (rs : List Rw) (j : Nat) (r : Rw), j < rs.length →
    ((((rowR rs).set (j * 4) (.string (str r.e.path))).set (j * 4 + 1) (.int .i64 r.e.kind)).set (j * 4 + 2) (.int .i64 r.e.size)).set (j * 4 + 3) (.slice r.a r.e.chunks.length r.c) = rowR (rs.set j r)
  | [], j, r, h => by simp at h
  | x :: rs, 0, r, h => by simp [rowR, cellsR]
  | x :: rs, j + 1, r, h => by
    have ih := rowR_set4 rs j r (by simpa using h)
    have e1 : rowR (x :: rs) = cellsR x ++ rowR rs := rfl
    have e2 : rowR ((x :: rs).set (j + 1) r) = cellsR x ++ rowR (rs.set j r) := rfl
    have hx : (cellsR x).length = 4 := rfl
    rw [e1, e2, ← ih, List.set_append_right _ _ (by omega), List.set_append_right _ _ (by omega), List.set_append_right _ _ (by omega), List.set_append_right _ _ (by omega), hx]
    rw [show (j + 1) * 4 - 4 = j * 4 by omega, show (j + 1) * 4 + 1 - 4 = j * 4 + 1 by omega, show (j + 1) * 4 + 2 - 4 = j * 4 + 2 by omega, show (j + 1) * 4 + 3 - 4 = j * 4 + 3 by omega]

theorem zeros_row (n : Nat) : (madeCells (Value.agg #[.string ⟨#[]⟩, .int .i64 0, .int .i64 0, .slice none 0 0]).cells (n * 4)).toList = rowR (List.replicate n ⟨zEn, none, 0⟩) := by
  have hl := rowR_length (List.replicate n ⟨zEn, none, 0⟩)
  rw [List.length_replicate] at hl
  apply List.ext_getElem?
  intro p
  by_cases hp : p < n * 4
  · have e : p = p / 4 * 4 + p % 4 := by omega
    have h1 : p / 4 < n := by omega
    have h2 : p % 4 < 4 := by omega
    rw [e, rowR_get _ (p / 4) (p % 4) ⟨zEn, none, 0⟩ (by simp [h1]) h2, ← e]
    have hm : p % 4 = 0 ∨ p % 4 = 1 ∨ p % 4 = 2 ∨ p % 4 = 3 := by omega
    rcases hm with hm | hm | hm | hm <;> simp [madeCells, hp, hm, cellsR, zEn, Value.cells, str]
  · rw [List.getElem?_eq_none (by simp [madeCells]; omega), List.getElem?_eq_none (by omega)]
theorem GE.zeros {B n T : Nat} {w : World} {v : Value} (h : w.ownsRow B 40 4 v n (madeCells (Value.agg #[.string ⟨#[]⟩, .int .i64 0, .int .i64 0, .slice none 0 0]).cells (n * 4)).toList) (hT : ∀ b, v.ownBlock = some b → b < T) : GE B T w v (List.replicate n zEn) := by
  refine ⟨List.replicate n ⟨zEn, none, 0⟩, by simp, by rw [List.length_replicate, ← zeros_row]; exact h, fun r hr => ?_, ?_, fun r hr g hg => ?_, hT⟩
  · rw [(List.mem_replicate.1 hr).2]; exact World.ownsRow_nil _ _ _ _
  · rw [List.pairwise_iff_getElem]
    intro i i' hi hi' hlt g hg
    simp at hg
  · rw [(List.mem_replicate.1 hr).2] at hg
    simp at hg

end Go.Proofs.YtejipahfodhmjaaGreat

