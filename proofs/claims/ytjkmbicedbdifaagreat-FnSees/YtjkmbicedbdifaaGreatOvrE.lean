/-
  The model's draw of layers.
-/
import Derived.Test.YtjkmbicedbdifaaGreatOvrD
namespace Go.Proofs.YtjkmbicedbdifaaGreat
open Go.RowKit Go.Maps
set_option linter.unusedVariables false
attribute [local go_sem ↓] Go.wp_at_zero Go.wp_at_succ

/-- A step that appends, after a draw: what was kept is kept. -/
theorem kept_append {p : Nat} {w wr w2 w3 : World} {o : Obj} {row : Option Nat} (h1 : Kept (fun b => b = p) w wr) (h2 : Kept (fun b => b = p) wr w2) (h3 : (w2.alloc o).grownBy w3 row) (hr : ∀ g, row = some g → w.heap.size ≤ g) : Kept (fun b => b = p) w w3 := by
  have hA := below_alloc w2 o
  refine ⟨h3.os.trans (hA.os.trans (h2.os.trans h1.os)), h3.tape.trans (hA.tape.trans (h2.tape.trans h1.tape)), h3.output.trans (hA.output.trans (h2.output.trans h1.output)), Nat.le_trans h1.size (Nat.le_trans h2.size (Nat.le_trans hA.size h3.size)), fun k hk hn => ?_⟩
  have e1 := h1.size
  have e2 := h2.size
  have e3 := hA.size
  exact (h3.block k (by omega) (fun e => by have := hr k e.symm; omega)).trans ((hA.block k (by omega)).trans ((h2.block k (by omega) hn).trans (h1.block k hk hn)))
theorem src_append {p : Nat} {w2 w3 : World} {zs : List Int} {T : Int} {o : Obj} {row : Option Nat} (h : SrcX w2 p zs T) (h3 : (w2.alloc o).grownBy w3 row) (hr : ∀ g, row = some g → p < g) : SrcX w3 p zs T :=
  (h.below (below_alloc w2 o)).kept (S := fun b => row = some b) ⟨h3.os, h3.tape, h3.output, h3.size, fun k hk hn => h3.block k hk (fun e => hn e.symm)⟩ (fun b hb e => by have := hr b e; omega)
/-- A drawn row of layers. -/
def LaysD (w : World) (p : Nat) (zs : List Int) (T : Int) (v : Value) (rs : List Ly) (w' : World) : Prop :=
  rs.length ≤ 5 ∧ (∀ x ∈ rs, GoodH x.es ∧ x.es.length ≤ 13 ∧ SmallE x.es) ∧ OwnLs p w.heap.size w' v rs ∧ SrcX w' p zs T ∧ Kept (fun b => b = p) w w'
theorem right_ly {es : List En} (h : Right es) : GoodH es ∧ es.length ≤ 13 ∧ SmallE es := ⟨goodH_rise h.rise, by have := h.len; omega, right_small h⟩

set_option maxRecDepth 100000 in
set_option maxHeartbeats 6400000 in
theorem l7Layers_e (p : Nat) (zs : List Int) (T : Int) (w : World) (h : SrcX w p zs T) (hu : U8 zs) (hT : T ≤ 50000) (hl : zs.length ≤ 2097152) :
    Calls Tryz.prog 22 #[.pointer (some ⟨p, 0, none⟩)] w fun r w' => ∃ v rs, r = .returned v ∧ LaysD w p zs (T + 6000) v rs w' := by
  obtain ⟨i1, ki, kz0, kz1, kz2⟩ := info_parts infoLs
  have hp := h.lt
  have HU := hide hu
  have O0 := hide (OwnLs.made p w)
  have K0 := hide ((Kept.refl (fun b => b = p) w).alloc (.cells #[] 30))
  have K1 := hide (K0.out.alloc (.cells #[.int .i64 1, .int .i64 2, .int .i64 3, .int .i64 2, .int .i64 3, .int .i64 0] 2))
  have O1 := hide (O0.out.below (below_alloc _ (.cells #[.int .i64 1, .int .i64 2, .int .i64 3, .int .i64 2, .int .i64 3, .int .i64 0] 2)))
  have S1 := hide ((h.below (below_alloc w (.cells #[] 30))).below (below_alloc _ (.cells #[.int .i64 1, .int .i64 2, .int .i64 3, .int .i64 2, .int .i64 3, .int .i64 0] 2)))
  have CC := hide (show ∀ i, i < 6 → ((w.alloc (.cells #[] 30)).alloc (.cells #[.int .i64 1, .int .i64 2, .int .i64 3, .int .i64 2, .int .i64 3, .int .i64 0] 2)).cell? ⟨w.heap.size + 1, i, none⟩ = some (.int .i64 (([1, 2, 3, 2, 3, 0] : List Int).getD i 0)) from fun i hi => by
    have : i = 0 ∨ i = 1 ∨ i = 2 ∨ i = 3 ∨ i = 4 ∨ i = 5 := by omega
    have hs : (w.alloc (.cells #[] 30)).heap.size = w.heap.size + 1 := by simp
    rw [← hs]
    rcases this with rfl | rfl | rfl | rfl | rfl | rfl <;> simp)
  have hgl : w.heap.size + 1 < ((w.alloc (.cells #[] 30)).alloc (.cells #[.int .i64 1, .int .i64 2, .int .i64 3, .int .i64 2, .int .i64 3, .int .i64 0] 2)).heap.size := by simp
  clear h hu K0 O0
  go_enter Tryz.func22, Tryz.ntmps22
  go_wp2_with fail
  generalize (w.alloc (.cells #[] 30)).alloc (.cells #[.int .i64 1, .int .i64 2, .int .i64 3, .int .i64 2, .int .i64 3, .int .i64 0] 2) = W1 at *
  refine (pick_e p (w.heap.size + 1) 6 6 [1, 2, 3, 2, 3, 0] zs T W1 S1.out HU.out (by omega) hl (by decide) (by decide) rfl (by omega) hgl CC.out).mono ?_
  rintro r w2 ⟨kv, hkv, rfl, s2, k2⟩
  obtain ⟨k0, hk0, rfl⟩ : ∃ k0 : Nat, k0 ≤ 3 ∧ kv = k0 := ⟨kv.toNat, by simp at hkv; omega, by simp at hkv; omega⟩
  have S2 := hide s2
  have O2 := hide (O1.out.kept k2 hp)
  have K2 := hide (K1.out.trans k2)
  clear s2 k2 O1 K1 S1 CC hkv hgl
  go_wp2_with fail
  go_loopw [3, 4] (fun v i wr => ∃ (k : Nat) (rs : List Ly), i = .int .i64 k ∧ rs.length + k ≤ 3 ∧ Hid (OwnLs p w.heap.size wr v rs) ∧ Hid (∀ x ∈ rs, Right x.es) ∧ Hid (SrcX wr p zs (T + 1 + 1000 * rs.length)) ∧ Hid (Kept (fun b => b = p) w wr)) (fun _ i _ => (intOf i).toNat)
  case atStart => exact ⟨k0, [], rfl, by simpa using hk0, O2, hide (fun x hx => by simp at hx), hide (by simpa using S2.out), K2⟩
  case round =>
    obtain ⟨k, rs, rfl, hk3, HO, HRi, HS, HK⟩ := hrel
    obtain ⟨va, vc, rfl⟩ := HO.out.shape
    by_cases hk : 0 < k
    · have hk' : (0 : Int) < (k : Int) := by omega
      go_wp2_with fail
      refine (right_e p zs _ wr HS.out HU.out (by omega) hl).mono ?_
      rintro r w3 ⟨es, av, cv, rfl, hR, hG, s3, k3⟩
      have hpr : p < wr.heap.size := Nat.lt_of_lt_of_le hp HK.out.size
      have O3 := hide (HO.out.kept k3 hp)
      have OA := hide ((O3.out.below (below_alloc w3 (.cells #[.slice av es.length cv] 30))).1)
      have hvl := HO.out.1.lt
      have hm1 : rs.length + 1 ≤ maxLen := by unfold maxLen; omega
      have hm2 : (rs.length + 1) * 24 ≤ 140737488355328 := by omega
      have hb3 : w.heap.size ≤ (w3.alloc (.cells #[.slice av es.length cv] 30)).heap.size := by have := HK.out.size; have := k3.size; simp; omega
      have G3 := hide hG
      have S3 := hide s3
      have K3 := hide k3
      clear hG s3 k3
      go_wp2_with (at_builtin; refine wpList_append_own_at _ rfl (.tmp 13) (.tmp 16) 24 rfl w.heap.size 30 i1 (.slice none 0 0) 1 24 Tryz.underlying24 ki kz0 kz1 kz2 rfl (by decide) _ _ _ rfl OA.out ⟨w3.heap.size, 0, none⟩ 1 1 [.slice av es.length cv] rfl rfl (cell_one_new _ _ _) (by intro u hu; simp at hu; subst hu; rfl) hm1 hm2 hb3 ?_; intro v' w4 hown4 hg4 hnil4 hblk4)
      have hO4 := O3.out.snoc (x := ⟨es, av, cv⟩) hpr (Nat.le_refl _) (fun g hg => Or.inl (hvl g hg).2) G3.out hown4 hg4 hblk4
      have hS4 := src_append S3.out hg4 (fun g hg => by have := (hvl g hg).1; omega)
      have hK4 := kept_append HK.out K3.out hg4 (fun g hg => (hvl g hg).1)
      have hS5 : SrcX w4 p zs (T + 1 + 1000 * ((rs ++ [(⟨es, av, cv⟩ : Ly)]).length : Int)) := by
        have e5 : T + 1 + 1000 * ((rs ++ [(⟨es, av, cv⟩ : Ly)]).length : Int) = T + 1 + 1000 * (rs.length : Int) + 1000 := by simp; omega
        rw [e5]; exact hS4
      have hR5 : ∀ x ∈ rs ++ [(⟨es, av, cv⟩ : Ly)], Right x.es := fun x hx => by
        rcases List.mem_append.1 hx with hx | hx
        · exact HRi.out x hx
        · simp only [List.mem_singleton] at hx; subst hx; exact hR
      have hk1 : ((k - 1 : Nat) : Int) = (k : Int) - 1 := by omega
      go_roundw
      case rel => exact ⟨k - 1, rs ++ [⟨es, av, cv⟩], by rw [hk1], by simp; omega, hide hO4, hide hR5, hide hS5, hide hK4⟩
      case measure => simp [intOf]; omega
    · have hk' : ¬ (0 : Int) < (k : Int) := by omega
      have hpr : p < wr.heap.size := Nat.lt_of_lt_of_le hp HK.out.size
      have HLy := hide (show ∀ x ∈ rs, GoodH x.es ∧ x.es.length ≤ 13 ∧ SmallE x.es from fun x hx => right_ly (HRi.out x hx))
      go_wp2_with fail
      refine (next_e p zs _ 14 wr HS.out HU.out (by omega) (by decide) (by decide) hl).mono ?_
      rintro r w3 ⟨m, rfl, hm, s3, k3⟩
      have S3 := hide s3
      have O3 := hide (HO.out.kept k3 hp)
      have K3 := hide (HK.out.trans k3)
      clear s3 k3 HO HK HS
      by_cases m0 : m = 0
      · subst m0
        go_wp2_with fail
        refine (bentLay_e p zs _ w3 S3.out HU.out (by omega) hl).mono ?_
        rintro r w4 ⟨es, av, cv, rfl, hgo, hle, hsm, hG, s4, k4⟩
        have hpr3 : p < w3.heap.size := Nat.lt_of_lt_of_le hp K3.out.size
        have O4 := hide (O3.out.kept k4 hp)
        have OA := hide ((O4.out.below (below_alloc w4 (.cells #[.slice av es.length cv] 30))).1)
        have hvl := O3.out.1.lt
        have hm1 : rs.length + 1 ≤ maxLen := by unfold maxLen; omega
        have hm2 : (rs.length + 1) * 24 ≤ 140737488355328 := by omega
        have hb3 : w.heap.size ≤ (w4.alloc (.cells #[.slice av es.length cv] 30)).heap.size := by have := K3.out.size; have := k4.size; simp; omega
        have G4 := hide hG
        have S4 := hide s4
        have K4 := hide k4
        clear hG s4 k4
        go_wp2_with (at_builtin; refine wpList_append_own_at _ rfl (.tmp 22) (.tmp 25) 24 rfl w.heap.size 30 i1 (.slice none 0 0) 1 24 Tryz.underlying24 ki kz0 kz1 kz2 rfl (by decide) _ _ _ rfl OA.out ⟨w4.heap.size, 0, none⟩ 1 1 [.slice av es.length cv] rfl rfl (cell_one_new _ _ _) (by intro u hu; simp at hu; subst hu; rfl) hm1 hm2 hb3 ?_; intro v' w5 hown5 hg5 hnil5 hblk5)
        have hO5 := O4.out.snoc (x := ⟨es, av, cv⟩) hpr3 (Nat.le_refl _) (fun g hg => Or.inl (hvl g hg).2) G4.out hown5 hg5 hblk5
        have hS5 := src_append S4.out hg5 (fun g hg => by have := (hvl g hg).1; omega)
        have hK5 := kept_append K3.out K4.out hg5 (fun g hg => (hvl g hg).1)
        go_ret
        refine ⟨v', rs ++ [⟨es, av, cv⟩], rfl, by simp; omega, fun x hx => ?_, hO5, hS5.mono (by omega), hK5⟩
        rcases List.mem_append.1 hx with hx | hx
        · exact HLy.out x hx
        · simp only [List.mem_singleton] at hx; subst hx; exact ⟨hgo, hle, hsm⟩
      · have m0' : ¬ (m : Int) = 0 := by omega
        by_cases m1 : m = 1
        · subst m1
          have hby5 : i1.bytes * 5 ≤ 281474976710656 := by rw [kz2]; decide
          have hml5 : 5 ≤ maxLen := by unfold maxLen; decide
          go_wp2_with (first | (at_make; refine wpList_make_full _ rfl _ _ 24 rfl w.heap.size 30 i1 (.slice none 0 0) 1 Tryz.underlying24 ki kz0 kz1 .i64 .i64 _ _ 5 rfl rfl rfl rfl hby5 hml5 (by have := K3.out.size; omega) ?_; intro w4 ho4 hg4) | fail)
          go_ret
          have hB4 : Below w3.heap.size w3 w4 := ⟨hg4.os, hg4.tape, hg4.output, hg4.size, fun k hk => hg4.block k hk (by simp)⟩
          refine ⟨.slice (some ⟨w3.heap.size, 0, none⟩) 5 5, List.replicate 5 ⟨[], none, 0⟩, rfl, by simp, fun x hx => ?_, ⟨?_, fun x hx => ?_⟩, (S3.out.below hB4).mono (by omega), K3.out.trans (Kept.of_below hB4)⟩
          · rw [(List.mem_replicate.1 hx).2]
            exact ⟨goodH_rise List.Pairwise.nil, by simp, fun e he => by simp at he⟩
          · have e5 : (madeCells (Value.slice none 0 0).cells (5 * 1)).toList = List.map lyV (List.replicate 5 ⟨[], none, 0⟩) := by
              first
                | kernel_rfl
                | simp [madeCells, lyV, Value.cells, List.replicate]
            rw [e5] at ho4
            exact ho4
          · rw [(List.mem_replicate.1 hx).2]
            exact ⟨p + 1, 0, by omega, by omega, fun g _ => Or.inr (by omega), GE.nil _ _ _⟩
        · have m1' : ¬ (m : Int) = 1 := by omega
          go_wp2_with fail
          go_ret
          exact ⟨.slice va rs.length vc, rs, rfl, by omega, HLy.out, O3.out, S3.out.mono (by omega), K3.out⟩
end Go.Proofs.YtjkmbicedbdifaaGreat
