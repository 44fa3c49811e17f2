/-
  Texts put together: FetZe.
-/
import Derived.Test.YtejfcapocikjmaaGreatDoorKAsksCa15
namespace Go.Proofs.YtejfcapocikjmaaGreatDoor
open Go.RowKit Go.Maps
set_option linter.unusedVariables false
attribute [local go_sem ↓] Go.wp_at_zero Go.wp_at_succ
theorem Bx3.set2 {w : World} {b : Nat} {u0 u1 u2 : Value} (h : Bx3 w b u0 u1 u2) (u : Value) : Bx3 (w.setCell ⟨b, 2, none⟩ u) b u0 u1 u := by
  obtain ⟨⟨m0, m1, m2⟩, f0, f1, f2⟩ := h
  refine ⟨⟨?_, ?_, cell_set_same m2⟩, ?_, ?_, ?_⟩
  · rw [cell_set_other (by simp)]; exact m0
  · rw [cell_set_other (by simp)]; exact m1
  · rw [World.frozen?_setCell]; exact f0
  · rw [World.frozen?_setCell]; exact f1
  · rw [World.frozen?_setCell]; exact f2
set_option maxRecDepth 100000 in
set_option maxHeartbeats 12800000 in
theorem l10Copy_at (wa : Option Addr) (wk : Nat) (W : List Wn) (fa : Option Addr) (fc : Nat) (F : List Int) (ca : Option Addr) (cc n : Nat) (D : Nat → Int) (P : Nat → List Int) (w : World) (h : RdF w wa W fa F ca D P n) (hn : n ≤ 1048576) (hP : ∀ i, i < n → 0 < (P i).length ∧ (P i).length ≤ 1048576) (hWl : W.length ≤ 1048576) (hFl : F.length ≤ 1048576) :
    Calls Tryz.prog 21 #[fetV wa W.length wk fa F.length fc ca n cc] w fun e w' => ∃ xa xc ya yc za zc T, e = .returned (.agg #[.slice xa W.length xc, .slice ya F.length yc, .slice za n zc]) ∧ (∃ zg, za = some ⟨zg, 0, none⟩ ∧ n ≤ zc) ∧ OwnW w.heap.size w' (.slice xa W.length xc) W ∧ w'.ownsRow w.heap.size 2 1 (.slice ya F.length yc) F.length (F.map (Value.int .i64)) ∧ GC T w'.heap.size w' (.slice za n zc) D P n ∧ w.heap.size ≤ T ∧ (∀ b, (Value.slice xa W.length xc).ownBlock = some b → b < T) ∧ (∀ b, (Value.slice ya F.length yc).ownBlock = some b → b < T) ∧ Below w.heap.size w w' := by
  obtain ⟨i1, ki, kz0, kz1, kz2⟩ := info_parts Tryz.infoWn
  obtain ⟨i0, hi0, hz0, hz1, hz2⟩ := info_parts Tryz.infoI64
  have X0 := hide ((Bx3.new w (.slice wa W.length wk) (.slice fa F.length fc) (.slice ca n cc) 28).below (below_alloc _ (.cells #[.slice none 0 0, .slice none 0 0, .slice none 0 0] 28)))
  have Y0 := hide (Bx3.new (w.alloc (.cells #[.slice wa W.length wk, .slice fa F.length fc, .slice ca n cc] 28)) (.slice none 0 0) (.slice none 0 0) (.slice none 0 0) 28)
  have hs : (w.alloc (.cells #[.slice wa W.length wk, .slice fa F.length fc, .slice ca n cc] 28)).heap.size = w.heap.size + 1 := by simp
  rw [hs] at Y0
  clear hs
  have B0 := hide (below_next (below_alloc w (.cells #[.slice wa W.length wk, .slice fa F.length fc, .slice ca n cc] 28)) (below_alloc _ (.cells #[.slice none 0 0, .slice none 0 0, .slice none 0 0] 28)))
  have hW0 : ((w.alloc (.cells #[.slice wa W.length wk, .slice fa F.length fc, .slice ca n cc] 28)).alloc (.cells #[.slice none 0 0, .slice none 0 0, .slice none 0 0] 28)).heap.size = w.heap.size + 2 := by simp
  have HW0 := hide hW0
  have H0 := hide (h.below B0.out)
  have HP := hide hP
  have HFW := hide (flat_length (n := W.length) (k := 2) (F := laidW W.length W) (fun i _ => laidW_length _ _ _))
  have HFF : Hid ((F.map (Value.int .i64)).length = F.length * 1) := hide (by simp)
  have hm0 : 0 + W.length ≤ maxLen := by unfold maxLen; omega
  have hm0' : (0 + W.length) * 16 ≤ 140737488355328 := by omega
  have hm1 : 0 + F.length ≤ maxLen := by unfold maxLen; omega
  have hm1' : (0 + F.length) * 8 ≤ 140737488355328 := by omega
  clear h hP hW0
  unfold fetV
  go_enter Tryz.func21, Tryz.ntmps21
  obtain ⟨⟨t0, t1, t2⟩, -, -, -⟩ := X0.out
  go_upto_region 1 with fail
  generalize (w.alloc (.cells #[.slice wa W.length wk, .slice fa F.length fc, .slice ca n cc] 28)).alloc (.cells #[.slice none 0 0, .slice none 0 0, .slice none 0 0] 28) = W0 at *
  have HC : Hid (∀ (u w2 : World) (S : Nat → Prop), (u.cell? ⟨w.heap.size, 0, none⟩ = some (.slice wa W.length wk) ∧ u.cell? ⟨w.heap.size, 1, none⟩ = some (.slice fa F.length fc) ∧ u.cell? ⟨w.heap.size, 2, none⟩ = some (.slice ca n cc)) → Kept S u w2 → ¬ S w.heap.size → (w2.cell? ⟨w.heap.size, 0, none⟩ = some (.slice wa W.length wk) ∧ w2.cell? ⟨w.heap.size, 1, none⟩ = some (.slice fa F.length fc) ∧ w2.cell? ⟨w.heap.size, 2, none⟩ = some (.slice ca n cc))) := by
    intro u w2 S ⟨h0, h1, h2⟩ hk hn
    have hlt := World.block_lt_of_cell? u ⟨w.heap.size, 0, none⟩ h0
    exact ⟨(hk.cell (p := ⟨w.heap.size, 0, none⟩) hlt hn).trans h0, (hk.cell (p := ⟨w.heap.size, 1, none⟩) hlt hn).trans h1, (hk.cell (p := ⟨w.heap.size, 2, none⟩) hlt hn).trans h2⟩
  go_region_held3 (fun u => u.cell? ⟨w.heap.size, 0, none⟩ = some (.slice wa W.length wk) ∧ u.cell? ⟨w.heap.size, 1, none⟩ = some (.slice fa F.length fc) ∧ u.cell? ⟨w.heap.size, 2, none⟩ = some (.slice ca n cc))
    (first
      | exact HC.out _ _ _ (by assumption) hk9 id
      | exact HC.out _ _ _ (by assumption) hk7 (fun (e : w.heap.size = _) => by have := HW0.out; have := B3.out.size; omega)
      | exact HC.out _ _ _ (by assumption) hk3 (fun (e : w.heap.size = _) => by have := HW0.out; omega)
      | go_keep)
    (first
      | (refine step_append_any (by rfl) (.tmp 3) (.tmp 5) 24 (by rfl) W0.heap.size 78 i1 (.agg #[.int .i64 0, .int .i64 0]) 2 16 Tryz.underlying24 ki kz0 kz1 kz2 rfl (by decide) W0.heap.size (by rfl) (made_at rfl (Nat.le_refl _)) wa W.length wk (flat W.length (laidW W.length W)) (by rfl) HFW.out (rdW_news (H0.out.wants.below (below_alloc W0 (.cells #[] 78)).drew)) (flatW_one W) hm0 hm0' (below_alloc W0 (.cells #[] 78)).size ?_; intro av cv w3 hown3 hk3; have O3 := hide hown3; have B3 := hide ((below_alloc W0 (.cells #[] 78)).drew.trans (hk3.below (below_alloc W0 (.cells #[] 78)).size (fun q hq hS => by omega))); clear hown3)
      | (refine step_append_any (by rfl) (.tmp 3) (.tmp 5) 24 (by rfl) W0.heap.size 78 i1 (.agg #[.int .i64 0, .int .i64 0]) 2 16 Tryz.underlying24 ki kz0 kz1 kz2 rfl (by decide) W0.heap.size (by rfl) ((made_at (w := W0) rfl (Nat.le_refl _)).alloc _) wa W.length wk (flat W.length (laidW W.length W)) (by rfl) HFW.out (rdW_news (H0.out.wants.below (below_next (below_alloc W0 (.cells #[] 78)) (below_alloc (W0.alloc (.cells #[] 78)) (.cells #[] 2))).drew)) (flatW_one W) hm0 hm0' (below_next (below_alloc W0 (.cells #[] 78)) (below_alloc (W0.alloc (.cells #[] 78)) (.cells #[] 2))).size ?_; intro av cv w3 hown3 hk3; have O3 := hide hown3; have B3 := hide ((below_next (below_alloc W0 (.cells #[] 78)) (below_alloc (W0.alloc (.cells #[] 78)) (.cells #[] 2))).drew.trans (hk3.below (below_next (below_alloc W0 (.cells #[] 78)) (below_alloc (W0.alloc (.cells #[] 78)) (.cells #[] 2))).size (fun q hq hS => by omega))); have E4 : Hid (w3.ownsRow W0.heap.size 2 1 (.slice (some ⟨W0.heap.size + 1, 0, none⟩) 0 0) 0 []) := hide (ownsRow_kept (show World.ownsRow ((W0.alloc (.cells #[] 78)).alloc (.cells #[] 2)).drew W0.heap.size 2 1 (.slice (some ⟨W0.heap.size + 1, 0, none⟩) 0 0) 0 [] from made_at (w := W0.alloc (.cells #[] 78)) (by simp) (by omega)) hk3 (fun b hb e => by simp [Value.ownBlock] at hb; omega)); clear hown3)
      | (refine step_append_any (by rfl) (.tmp 3) (.tmp 5) 24 (by rfl) W0.heap.size 78 i1 (.agg #[.int .i64 0, .int .i64 0]) 2 16 Tryz.underlying24 ki kz0 kz1 kz2 rfl (by decide) (W0.heap.size + 1) (by rfl) (made_at (w := W0.alloc (.cells #[] 2)) (by simp) (by omega)) wa W.length wk (flat W.length (laidW W.length W)) (by rfl) HFW.out (rdW_news (H0.out.wants.below (below_next (below_alloc W0 (.cells #[] 2)) (below_alloc (W0.alloc (.cells #[] 2)) (.cells #[] 78))).drew)) (flatW_one W) hm0 hm0' (below_next (below_alloc W0 (.cells #[] 2)) (below_alloc (W0.alloc (.cells #[] 2)) (.cells #[] 78))).size ?_; intro av cv w3 hown3 hk3; have O3 := hide hown3; have B3 := hide ((below_next (below_alloc W0 (.cells #[] 2)) (below_alloc (W0.alloc (.cells #[] 2)) (.cells #[] 78))).drew.trans (hk3.below (below_next (below_alloc W0 (.cells #[] 2)) (below_alloc (W0.alloc (.cells #[] 2)) (.cells #[] 78))).size (fun q hq hS => by omega))); have E4 : Hid (w3.ownsRow W0.heap.size 2 1 (.slice (some ⟨W0.heap.size, 0, none⟩) 0 0) 0 []) := hide (ownsRow_kept (show World.ownsRow ((W0.alloc (.cells #[] 2)).alloc (.cells #[] 78)).drew W0.heap.size 2 1 (.slice (some ⟨W0.heap.size, 0, none⟩) 0 0) 0 [] from (made_at (w := W0) rfl (Nat.le_refl _)).alloc _) hk3 (fun b hb e => by simp [Value.ownBlock] at hb; omega)); clear hown3)
      | (refine step_append_any (by rfl) (.tmp 7) (.tmp 9) 25 (by rfl) W0.heap.size 2 i0 (.int .i64 0) 1 8 Tryz.underlying25 hi0 hz0 hz1 hz2 rfl (by decide) w3.heap.size (by rfl) (made_at rfl B3.out.size) fa F.length fc (F.map (Value.int .i64)) (by rfl) HFF.out (rdF_news (H0.out.failed.below (below_next B3.out (below_alloc w3 (.cells #[] 2))))) (ints_one _ _) hm1 hm1' (below_next B3.out (below_alloc w3 (.cells #[] 2))).size ?_; intro ay cy w7 hown7 hk7; have O7 := hide hown7; have B7 := hide ((below_next B3.out (below_alloc w3 (.cells #[] 2))).trans (hk7.below (below_next B3.out (below_alloc w3 (.cells #[] 2))).size (fun q hq hS => by have := B3.out.size; omega))); have O6 := hide (ownsRow_kept (O3.out.alloc _) hk7 (fun b hb e => by have := (O3.out.lt b hb).2; omega)); clear hown7)
      | (refine step_append_any (by rfl) (.tmp 7) (.tmp 9) 25 (by rfl) W0.heap.size 2 i0 (.int .i64 0) 1 8 Tryz.underlying25 hi0 hz0 hz1 hz2 rfl (by decide) (W0.heap.size + 1) (by rfl) E4.out fa F.length fc (F.map (Value.int .i64)) (by rfl) HFF.out (rdF_news (H0.out.failed.below B3.out)) (ints_one _ _) hm1 hm1' B3.out.size ?_; intro ay cy w7 hown7 hk7; have O7 := hide hown7; have B7 := hide (B3.out.trans (hk7.below B3.out.size (fun q hq hS => by have := B3.out.size; omega))); have O6 := hide (ownsRow_kept O3.out hk7 (fun b hb e => rows_apart O3.out E4.out (by decide) hb (by subst e; rfl))); clear hown7)
      | (refine step_append_any (by rfl) (.tmp 7) (.tmp 9) 25 (by rfl) W0.heap.size 2 i0 (.int .i64 0) 1 8 Tryz.underlying25 hi0 hz0 hz1 hz2 rfl (by decide) W0.heap.size (by rfl) E4.out fa F.length fc (F.map (Value.int .i64)) (by rfl) HFF.out (rdF_news (H0.out.failed.below B3.out)) (ints_one _ _) hm1 hm1' B3.out.size ?_; intro ay cy w7 hown7 hk7; have O7 := hide hown7; have B7 := hide (B3.out.trans (hk7.below B3.out.size (fun q hq hS => by have := B3.out.size; omega))); have O6 := hide (ownsRow_kept O3.out hk7 (fun b hb e => rows_apart O3.out E4.out (by decide) hb (by subst e; rfl))); clear hown7)
      | (go_at_call 50; refine (l2Copy_at ca cc n D P w7 (H0.out.chunks.below B7.out) hn HP.out).mono ?_; rintro e w9 ⟨gz, cz, rfl, hcz, hG, hb9⟩; have G9 := hide hG; have B9 := hide (below_next B7.out hb9); have O9 := hide (ownsRow_below O7.out hb9); have P9 := hide (ownsRow_below O6.out hb9); have hz9 := hb9.size; have hk9 : Kept (fun _ => False) w7 w9 := Kept.of_below hb9; obtain ⟨⟨m0, m1, m2⟩, k0, k1, k2⟩ := Y0.out.below B9.out; clear hG hb9))
  all_goals
    go_wp2_with fail
    have hk := Kept.threeF w9 (w.heap.size + 1) (.slice av W.length cv) (.slice ay F.length cy) (.slice (some ⟨gz, 0, none⟩) n cz)
    refine bodyPost_ret (v := .agg #[.slice av W.length cv, .slice ay F.length cy, .slice (some ⟨gz, 0, none⟩) n cz]) (by simp [results, Tryz.results21, go_sem, m0, m1, m2]) rfl ⟨av, cv, ay, cy, some ⟨gz, 0, none⟩, cz, w7.heap.size, rfl, ⟨gz, rfl, hcz⟩, ?_, ?_, ?_, ?_, ?_, ?_, ?_⟩
    · exact ownsRow_mono (ownsRow_kept P9.out hk (fun b hb e => by have := (P9.out.lt b hb).1; have := HW0.out; omega)) (by have := HW0.out; omega)
    · exact ownsRow_mono (ownsRow_kept O9.out hk (fun b hb e => by have := (O9.out.lt b hb).1; have := HW0.out; omega)) (by have := HW0.out; omega)
    · have hz : (((w9.setCell ⟨w.heap.size + 1, 0, none⟩ (.slice av W.length cv)).setCell ⟨w.heap.size + 1, 1, none⟩ (.slice ay F.length cy)).setCell ⟨w.heap.size + 1, 2, none⟩ (.slice (some ⟨gz, 0, none⟩) n cz)).heap.size = w9.heap.size := by simp [World.setCell]
      rw [hz]
      exact G9.out.kept hk (fun x h1 h2 e => by have := B7.out.size; have := HW0.out; omega)
    · have := B7.out.size; have := HW0.out; omega
    · exact fun b hb => (O6.out.lt b hb).2
    · exact fun b hb => (O7.out.lt b hb).2
    · have hb9 := below_next B0.out B9.out
      exact hb9.trans (hk.below (B := w.heap.size) hb9.size (fun k hk e => by omega))
set_option maxRecDepth 100000 in
set_option maxHeartbeats 6400000 in
theorem specHearFetch_bad (wa : Option Addr) (wk : Nat) (W : List Wn) (fa : Option Addr) (fc : Nat) (F : List Int) (ca : Option Addr) (cc n : Nat) (D : Nat → Int) (P : Nat → List Int) (d : Int) (w : World) (h : RdF w wa W fa F ca D P n) (hn : n ≤ 1048576) (hP : SmallP P n) (hWl : W.length ≤ 1048576) (hFl : F.length ≤ 1048576) (hfc : F.length ≤ fc) (da : Option Addr) (dc : Nat) (zs : List Int) (hr : Reads .u8 w da zs) (hu : U8 zs) (hl : zs.length ≤ 1048576) (hz : fetFault W F D P n ≠ 0) :
    Calls Tryz.prog 59 #[fetV wa W.length wk fa F.length fc ca n cc, .int .i64 d, .slice da zs.length dc] w (ResF (fetFault W F D P n) [] [] D P 0 w) := by
  have B0 := hide (below_next (below_alloc w (.cells #[.slice wa W.length wk, .slice fa F.length fc, .slice ca n cc] 28)) (below_alloc _ (.cells #[.int .i64 0, .slice none 0 0, .slice none 0 0, .slice none 0 0] 33)))
  have X0 := hide ((Bx3.new w (.slice wa W.length wk) (.slice fa F.length fc) (.slice ca n cc) 28).below (below_alloc _ (.cells #[.int .i64 0, .slice none 0 0, .slice none 0 0, .slice none 0 0] 33)))
  have R0 := hide (Bx4.new (w.alloc (.cells #[.slice wa W.length wk, .slice fa F.length fc, .slice ca n cc] 28)) (.int .i64 0) (.slice none 0 0) (.slice none 0 0) (.slice none 0 0) 33)
  have hs : (w.alloc (.cells #[.slice wa W.length wk, .slice fa F.length fc, .slice ca n cc] 28)).heap.size = w.heap.size + 1 := by simp
  rw [hs] at R0
  clear hs
  have HFF := hide (l10Fault_any w.heap.size wa wk W fa fc F ca cc n D P _ X0.out (h.below B0.out) hn hP hWl hFl hfc)
  clear h hP
  unfold fetV
  have hz1 : (fetFault W F D P n != 0) = true := by simpa using hz
  generalize fetFault W F D P n = A at *
  clear hz
  go_enter Tryz.func59, Tryz.ntmps59
  go_wp2_with fail
  generalize (w.alloc (.cells #[.slice wa W.length wk, .slice fa F.length fc, .slice ca n cc] 28)).alloc (.cells #[.int .i64 0, .slice none 0 0, .slice none 0 0, .slice none 0 0] 33) = W0 at *
  refine HFF.out.mono ?_
  rintro e w1 ⟨rfl, hb1⟩
  have B1 := hide (below_next B0.out hb1)
  have X1 := hide (X0.out.below hb1)
  have R1 := hide (R0.out.below hb1)
  clear hb1 X0 R0 B0 HFF
  go_wp2_with fail
  refine (l10Bad_any A w1).mono ?_
  rintro e w9 ⟨rfl, hb9⟩
  have B9 := hide (below_next B1.out hb9)
  obtain ⟨⟨m0, m1, m2, m3⟩, k0, k1, k2, k3⟩ := R1.out.below hb9
  clear hb9
  go_wp2_with fail
  have hk := Kept.fourF w9 (w.heap.size + 1) (.int .i64 A) (.slice none 0 0) (.slice none 0 0) (.slice none 0 0)
  exact bodyPost_ret (v := .agg #[.int .i64 A, .slice none 0 0, .slice none 0 0, .slice none 0 0]) (by simp [results, Tryz.results59, go_sem, m0, m1, m2, m3]) rfl (ResF.bad (B9.out.trans (hk.below (B := w.heap.size) B9.out.size (fun k hk e => by omega))))
set_option maxRecDepth 100000 in
set_option maxHeartbeats 6400000 in
theorem specHearFetch_none (wa : Option Addr) (wk : Nat) (W : List Wn) (fa : Option Addr) (fc : Nat) (F : List Int) (ca : Option Addr) (cc n : Nat) (D : Nat → Int) (P : Nat → List Int) (d : Int) (w : World) (h : RdF w wa W fa F ca D P n) (hn : n ≤ 1048576) (hP : SmallP P n) (hWl : W.length ≤ 1048576) (hFl : F.length ≤ 1048576) (hfc : F.length ≤ fc) (da : Option Addr) (dc : Nat) (zs : List Int) (hr : Reads .u8 w da zs) (hu : U8 zs) (hl : zs.length ≤ 1048576) (hz : fetFault W F D P n = 0) (hf : ∀ j, j < W.length → (W.getD j (0, 0)).1 ≠ d) :
    Calls Tryz.prog 59 #[fetV wa W.length wk fa F.length fc ca n cc, .int .i64 d, .slice da zs.length dc] w (ResF 4 [] [] D P 0 w) := by
  have B0 := hide (below_next (below_alloc w (.cells #[.slice wa W.length wk, .slice fa F.length fc, .slice ca n cc] 28)) (below_alloc _ (.cells #[.int .i64 0, .slice none 0 0, .slice none 0 0, .slice none 0 0] 33)))
  have X0 := hide ((Bx3.new w (.slice wa W.length wk) (.slice fa F.length fc) (.slice ca n cc) 28).below (below_alloc _ (.cells #[.int .i64 0, .slice none 0 0, .slice none 0 0, .slice none 0 0] 33)))
  have R0 := hide (Bx4.new (w.alloc (.cells #[.slice wa W.length wk, .slice fa F.length fc, .slice ca n cc] 28)) (.int .i64 0) (.slice none 0 0) (.slice none 0 0) (.slice none 0 0) 33)
  have hs : (w.alloc (.cells #[.slice wa W.length wk, .slice fa F.length fc, .slice ca n cc] 28)).heap.size = w.heap.size + 1 := by simp
  rw [hs] at R0
  clear hs
  have HFF := hide (l10Fault_any w.heap.size wa wk W fa fc F ca cc n D P _ X0.out (h.below B0.out) hn hP hWl hFl hfc)
  rw [hz] at HFF
  have HAT := hide (fun (u : World) (hb : Below w.heap.size w u) (hX : Bx3 u w.heap.size (.slice wa W.length wk) (.slice fa F.length fc) (.slice ca n cc)) => l10At_no w.heap.size wa wk W d u hX.1.1 (h.wants.below hb) hWl hf)
  clear h hP hz hf
  unfold fetV
  go_enter Tryz.func59, Tryz.ntmps59
  go_wp2_with fail
  generalize (w.alloc (.cells #[.slice wa W.length wk, .slice fa F.length fc, .slice ca n cc] 28)).alloc (.cells #[.int .i64 0, .slice none 0 0, .slice none 0 0, .slice none 0 0] 33) = W0 at *
  refine HFF.out.mono ?_
  rintro e w1 ⟨rfl, hb1⟩
  have B1 := hide (below_next B0.out hb1)
  have X1 := hide (X0.out.below hb1)
  have R1 := hide (R0.out.below hb1)
  clear hb1 X0 R0 B0 HFF
  go_wp2_with fail
  refine (HAT.out w1 B1.out X1.out).mono ?_
  rintro e w1 ⟨rfl, rfl⟩
  go_wp2_with fail
  refine (l10Bad_any 4 w1).mono ?_
  rintro e w9 ⟨rfl, hb9⟩
  have B9 := hide (below_next B1.out hb9)
  obtain ⟨⟨m0, m1, m2, m3⟩, k0, k1, k2, k3⟩ := R1.out.below hb9
  clear hb9
  go_wp2_with fail
  have hk := Kept.fourF w9 (w.heap.size + 1) (.int .i64 4) (.slice none 0 0) (.slice none 0 0) (.slice none 0 0)
  exact bodyPost_ret (v := .agg #[.int .i64 4, .slice none 0 0, .slice none 0 0, .slice none 0 0]) (by simp [results, Tryz.results59, go_sem, m0, m1, m2, m3]) rfl (ResF.bad (B9.out.trans (hk.below (B := w.heap.size) B9.out.size (fun k hk e => by omega))))
set_option maxRecDepth 100000 in
set_option maxHeartbeats 6400000 in
theorem specHearFetch_more (wa : Option Addr) (wk : Nat) (W : List Wn) (fa : Option Addr) (fc : Nat) (F : List Int) (ca : Option Addr) (cc n : Nat) (D : Nat → Int) (P : Nat → List Int) (d : Int) (w : World) (h : RdF w wa W fa F ca D P n) (hn : n ≤ 1048576) (hP : SmallP P n) (hWl : W.length ≤ 1048576) (hFl : F.length ≤ 1048576) (hfc : F.length ≤ fc) (da : Option Addr) (dc : Nat) (zs : List Int) (hr : Reads .u8 w da zs) (hu : U8 zs) (hl : zs.length ≤ 1048576) (hz : fetFault W F D P n = 0) (hPl : ∀ i, i < n → 0 < (P i).length ∧ (P i).length ≤ 1048576) (i : Nat) (t : Int) (hi : i < W.length) (hdi : W.getD i (0, 0) = (d, t)) (hfi : ∀ j, j < i → (W.getD j (0, 0)).1 ≠ d) (hO : oneFault d zs ≠ 0) (h0 : 0 ≤ t) (h3 : t + 1 < 3) :
    Calls Tryz.prog 59 #[fetV wa W.length wk fa F.length fc ca n cc, .int .i64 d, .slice da zs.length dc] w (ResF 0 (W.set i (d, t + 1)) F D P n w) := by
  have B0 := hide (below_next (below_alloc w (.cells #[.slice wa W.length wk, .slice fa F.length fc, .slice ca n cc] 28)) (below_alloc _ (.cells #[.int .i64 0, .slice none 0 0, .slice none 0 0, .slice none 0 0] 33)))
  have X0 := hide ((Bx3.new w (.slice wa W.length wk) (.slice fa F.length fc) (.slice ca n cc) 28).below (below_alloc _ (.cells #[.int .i64 0, .slice none 0 0, .slice none 0 0, .slice none 0 0] 33)))
  have R0 := hide (Bx4.new (w.alloc (.cells #[.slice wa W.length wk, .slice fa F.length fc, .slice ca n cc] 28)) (.int .i64 0) (.slice none 0 0) (.slice none 0 0) (.slice none 0 0) 33)
  have hs : (w.alloc (.cells #[.slice wa W.length wk, .slice fa F.length fc, .slice ca n cc] 28)).heap.size = w.heap.size + 1 := by simp
  rw [hs] at R0
  clear hs
  have HFF := hide (l10Fault_any w.heap.size wa wk W fa fc F ca cc n D P _ X0.out (h.below B0.out) hn hP hWl hFl hfc)
  rw [hz] at HFF
  have HAT := hide (fun (u : World) (hb : Below w.heap.size w u) (hX : Bx3 u w.heap.size (.slice wa W.length wk) (.slice fa F.length fc) (.slice ca n cc)) => l10At_yes w.heap.size wa wk i W d u hX.1.1 (h.wants.below hb) hWl hi (by rw [hdi]) hfi)
  have HCP := hide (fun (u : World) (hb : Below w.heap.size w u) => l10Copy_at wa wk W fa fc F ca cc n D P u (h.below hb) hn hPl hWl hFl)
  have HDI := hide hdi
  have HRB := hide (fun (u : World) (hb : Below w.heap.size w u) => hr.below hb)
  have HON := hide (fun (u : World) (hb : Below w.heap.size w u) => specOne_any d da dc zs u (hr.below hb) hu hl)
  have hO1 : (oneFault d zs != 0) = true := by simpa using hO
  generalize oneFault d zs = Q1 at *
  clear hO
  have hi9 : ¬ (i : Int) < 0 := by omega
  clear h hP hz hdi hfi hr hu
  unfold fetV at HCP ⊢
  go_enter Tryz.func59, Tryz.ntmps59
  go_wp2_with fail
  generalize (w.alloc (.cells #[.slice wa W.length wk, .slice fa F.length fc, .slice ca n cc] 28)).alloc (.cells #[.int .i64 0, .slice none 0 0, .slice none 0 0, .slice none 0 0] 33) = W0 at *
  refine HFF.out.mono ?_
  rintro e w1 ⟨rfl, hb1⟩
  have B1 := hide (below_next B0.out hb1)
  have X1 := hide (X0.out.below hb1)
  have R1 := hide (R0.out.below hb1)
  clear hb1 X0 R0 B0 HFF
  go_wp2_with fail
  refine (HAT.out w1 B1.out X1.out).mono ?_
  rintro e w1 ⟨rfl, rfl⟩
  obtain ⟨⟨t0, t1, t2⟩, -, -, -⟩ := X1.out
  go_wp2_with fail
  clear t0 t1 t2
  refine (HCP.out w1 B1.out).mono ?_
  rintro e w2 ⟨xa, xc, ya, yc, za, zc, T, rfl, hZA, hW2, hF2, hG2, hT2, hxT, hyT, hb2⟩
  have hzw := B1.out.size
  have hz2 := hb2.size
  have hr1 := R1.out.lt
  have B2 := hide (below_next (below_next B1.out hb2) (below_alloc w2 (.cells #[.slice xa W.length xc, .slice ya F.length yc, .slice za n zc] 28)))
  have A2 := hide (below_alloc w2 (.cells #[.slice xa W.length xc, .slice ya F.length yc, .slice za n zc] 28))
  have N2 := hide (Bx3.new w2 (.slice xa W.length xc) (.slice ya F.length yc) (.slice za n zc) 28)
  have R2 := hide ((R1.out.below hb2).below A2.out)
  have W2 := hide (hW2.below A2.out)
  have F2 := hide (ownsRow_below hF2 A2.out)
  have G2 := hide (hG2.below A2.out)
  have D2 : Hid (RdF (w2.alloc (.cells #[.slice xa W.length xc, .slice ya F.length yc, .slice za n zc] 28)) xa W ya F za D P n) := hide ⟨(hW2.below A2.out).rd, reads_owned (ownsRow_below hF2 A2.out) rfl, (hG2.rd).below A2.out⟩
  have hyl : ∀ b, (Value.slice ya F.length yc).ownBlock = some b → b < w2.heap.size := fun b hb => (hF2.lt b hb).2
  have hxl : ∀ b, (Value.slice xa W.length xc).ownBlock = some b → b < w2.heap.size := fun b hb => (World.ownsRow.lt hW2 b hb).2
  have hsz3 : (w2.alloc (.cells #[.slice xa W.length xc, .slice ya F.length yc, .slice za n zc] 28)).heap.size = w2.heap.size + 1 := by simp
  have HYX := hide (And.intro hyl (And.intro hxl (And.intro hxT hsz3)))
  have HYT := hide hyT
  clear hb2 hW2 hF2 hG2 R1 HCP HAT X1 hyl hxl hxT hyT hsz3
  go_wp2_with fail
  refine (HON.out _ B2.out).mono ?_
  rintro e w3 ⟨rfl, mq, hmq⟩
  have bq := hide (below_drewN (Below.refl (w2.alloc (.cells #[.slice xa W.length xc, .slice ya F.length yc, .slice za n zc] 28)).heap.size (w2.alloc (.cells #[.slice xa W.length xc, .slice ya F.length yc, .slice za n zc] 28))) mq)
  rw [← hmq] at bq
  have N3 := hide (N2.out.below bq.out)
  have R3 := hide (R2.out.below bq.out)
  have W3 := hide (OwnW.below W2.out bq.out)
  have F3 := hide (ownsRow_below F2.out bq.out)
  have G3 := hide (G2.out.below bq.out)
  have B3 := hide (below_next B2.out bq.out)
  have hsz := bq.out.size
  have HSZ := hide hsz
  clear hmq N2 R2 W2 F2 G2 D2 B2 HON bq hsz
  have HZX : Hid (w2.heap.size + 1 ≤ w3.heap.size) := hide (by have := HSZ.out; have := HYX.out.2.2.2; omega)
  clear HSZ
  have HAS := hide (l10Lose_more w1.heap.size w2.heap.size i xa xc W _ _ d t w3 N3.out W3.out (fun e => by have := HYX.out.2.1 _ e; omega) hWl hi HDI.out h0 h3)
  have hln : (W.set i (d, t + 1)).length = W.length := by simp
  go_wp2_with fail
  refine HAS.out.mono ?_
  rintro e w4 ⟨rfl, hW4, hK4⟩
  have hz4 := hK4.size
  have F4 := hide (ownsRow_kept F3.out hK4 (fun b hb e => rows_apart W3.out F3.out (by decide) e hb))
  have G4 := hide (G3.out.kept hK4 (fun b h1 h2 e => by have := HYX.out.2.2.1 b e; omega))
  have B4 := hide (B3.out.trans (hK4.below (B := w.heap.size) B3.out.size (fun k hk e => by have := (World.ownsRow.lt W3.out k e).1; omega)))
  have R4 := hide (R3.out.kept hK4 (fun e => by have := (World.ownsRow.lt W3.out _ e).1; omega))
  have N4 := hide (N3.out.kept hK4 (fun e => by have := HYX.out.2.1 _ e; omega))
  rw [← hln] at hW4
  have W4 := hide hW4
  obtain ⟨⟨s0, s1, s2⟩, -, -, -⟩ := N4.out
  obtain ⟨⟨m0, m1, m2, m3⟩, k0, k1, k2, k3⟩ := R4.out
  clear hW4 hK4
  go_wp2_with fail
  rw [← hln]
  exact bodyPost_ret (v := .agg #[.int .i64 0, .slice xa (W.set i (d, t + 1)).length xc, .slice ya F.length yc, .slice za n zc]) (by simp [results, Tryz.results59, go_sem, m0, m1, m2, m3]) rfl (ResF.box (B := w1.heap.size) W4.out F4.out ((G4.out.mono hT2).wide (by have := HZX.out; omega)) B4.out (by omega) (by omega))
set_option maxRecDepth 100000 in
set_option maxHeartbeats 6400000 in
theorem specHearFetch_full (wa : Option Addr) (wk : Nat) (W : List Wn) (fa : Option Addr) (fc : Nat) (F : List Int) (ca : Option Addr) (cc n : Nat) (D : Nat → Int) (P : Nat → List Int) (d : Int) (w : World) (h : RdF w wa W fa F ca D P n) (hn : n ≤ 1048576) (hP : SmallP P n) (hWl : W.length ≤ 1048576) (hFl : F.length ≤ 1048576) (hfc : F.length ≤ fc) (da : Option Addr) (dc : Nat) (zs : List Int) (hr : Reads .u8 w da zs) (hu : U8 zs) (hl : zs.length ≤ 1048576) (hz : fetFault W F D P n = 0) (hPl : ∀ i, i < n → 0 < (P i).length ∧ (P i).length ≤ 1048576) (i : Nat) (t : Int) (hi : i < W.length) (hdi : W.getD i (0, 0) = (d, t)) (hfi : ∀ j, j < i → (W.getD j (0, 0)).1 ≠ d) (hO : oneFault d zs ≠ 0) (h0 : 0 ≤ t) (h9 : t ≤ 9) (h3 : ¬ t + 1 < 3) (h40 : 40 ≤ F.length) :
    Calls Tryz.prog 59 #[fetV wa W.length wk fa F.length fc ca n cc, .int .i64 d, .slice da zs.length dc] w (ResF 2 [] [] D P 0 w) := by
  have B0 := hide (below_next (below_alloc w (.cells #[.slice wa W.length wk, .slice fa F.length fc, .slice ca n cc] 28)) (below_alloc _ (.cells #[.int .i64 0, .slice none 0 0, .slice none 0 0, .slice none 0 0] 33)))
  have X0 := hide ((Bx3.new w (.slice wa W.length wk) (.slice fa F.length fc) (.slice ca n cc) 28).below (below_alloc _ (.cells #[.int .i64 0, .slice none 0 0, .slice none 0 0, .slice none 0 0] 33)))
  have R0 := hide (Bx4.new (w.alloc (.cells #[.slice wa W.length wk, .slice fa F.length fc, .slice ca n cc] 28)) (.int .i64 0) (.slice none 0 0) (.slice none 0 0) (.slice none 0 0) 33)
  have hs : (w.alloc (.cells #[.slice wa W.length wk, .slice fa F.length fc, .slice ca n cc] 28)).heap.size = w.heap.size + 1 := by simp
  rw [hs] at R0
  clear hs
  have HFF := hide (l10Fault_any w.heap.size wa wk W fa fc F ca cc n D P _ X0.out (h.below B0.out) hn hP hWl hFl hfc)
  rw [hz] at HFF
  have HAT := hide (fun (u : World) (hb : Below w.heap.size w u) (hX : Bx3 u w.heap.size (.slice wa W.length wk) (.slice fa F.length fc) (.slice ca n cc)) => l10At_yes w.heap.size wa wk i W d u hX.1.1 (h.wants.below hb) hWl hi (by rw [hdi]) hfi)
  have HCP := hide (fun (u : World) (hb : Below w.heap.size w u) => l10Copy_at wa wk W fa fc F ca cc n D P u (h.below hb) hn hPl hWl hFl)
  have HDI := hide hdi
  have HRB := hide (fun (u : World) (hb : Below w.heap.size w u) => hr.below hb)
  have HON := hide (fun (u : World) (hb : Below w.heap.size w u) => specOne_any d da dc zs u (hr.below hb) hu hl)
  have hO1 : (oneFault d zs != 0) = true := by simpa using hO
  generalize oneFault d zs = Q1 at *
  clear hO
  have hi9 : ¬ (i : Int) < 0 := by omega
  clear h hP hz hdi hfi hr hu
  unfold fetV at HCP ⊢
  go_enter Tryz.func59, Tryz.ntmps59
  go_wp2_with fail
  generalize (w.alloc (.cells #[.slice wa W.length wk, .slice fa F.length fc, .slice ca n cc] 28)).alloc (.cells #[.int .i64 0, .slice none 0 0, .slice none 0 0, .slice none 0 0] 33) = W0 at *
  refine HFF.out.mono ?_
  rintro e w1 ⟨rfl, hb1⟩
  have B1 := hide (below_next B0.out hb1)
  have X1 := hide (X0.out.below hb1)
  have R1 := hide (R0.out.below hb1)
  clear hb1 X0 R0 B0 HFF
  go_wp2_with fail
  refine (HAT.out w1 B1.out X1.out).mono ?_
  rintro e w1 ⟨rfl, rfl⟩
  obtain ⟨⟨t0, t1, t2⟩, -, -, -⟩ := X1.out
  go_wp2_with fail
  clear t0 t1 t2
  refine (HCP.out w1 B1.out).mono ?_
  rintro e w2 ⟨xa, xc, ya, yc, za, zc, T, rfl, hZA, hW2, hF2, hG2, hT2, hxT, hyT, hb2⟩
  have hzw := B1.out.size
  have hz2 := hb2.size
  have hr1 := R1.out.lt
  have B2 := hide (below_next (below_next B1.out hb2) (below_alloc w2 (.cells #[.slice xa W.length xc, .slice ya F.length yc, .slice za n zc] 28)))
  have A2 := hide (below_alloc w2 (.cells #[.slice xa W.length xc, .slice ya F.length yc, .slice za n zc] 28))
  have N2 := hide (Bx3.new w2 (.slice xa W.length xc) (.slice ya F.length yc) (.slice za n zc) 28)
  have R2 := hide ((R1.out.below hb2).below A2.out)
  have W2 := hide (hW2.below A2.out)
  have F2 := hide (ownsRow_below hF2 A2.out)
  have G2 := hide (hG2.below A2.out)
  have D2 : Hid (RdF (w2.alloc (.cells #[.slice xa W.length xc, .slice ya F.length yc, .slice za n zc] 28)) xa W ya F za D P n) := hide ⟨(hW2.below A2.out).rd, reads_owned (ownsRow_below hF2 A2.out) rfl, (hG2.rd).below A2.out⟩
  have hyl : ∀ b, (Value.slice ya F.length yc).ownBlock = some b → b < w2.heap.size := fun b hb => (hF2.lt b hb).2
  have hxl : ∀ b, (Value.slice xa W.length xc).ownBlock = some b → b < w2.heap.size := fun b hb => (World.ownsRow.lt hW2 b hb).2
  have hsz3 : (w2.alloc (.cells #[.slice xa W.length xc, .slice ya F.length yc, .slice za n zc] 28)).heap.size = w2.heap.size + 1 := by simp
  have HYX := hide (And.intro hyl (And.intro hxl (And.intro hxT hsz3)))
  have HYT := hide hyT
  clear hb2 hW2 hF2 hG2 R1 HCP HAT X1 hyl hxl hxT hyT hsz3
  go_wp2_with fail
  refine (HON.out _ B2.out).mono ?_
  rintro e w3 ⟨rfl, mq, hmq⟩
  have bq := hide (below_drewN (Below.refl (w2.alloc (.cells #[.slice xa W.length xc, .slice ya F.length yc, .slice za n zc] 28)).heap.size (w2.alloc (.cells #[.slice xa W.length xc, .slice ya F.length yc, .slice za n zc] 28))) mq)
  rw [← hmq] at bq
  have N3 := hide (N2.out.below bq.out)
  have R3 := hide (R2.out.below bq.out)
  have W3 := hide (OwnW.below W2.out bq.out)
  have F3 := hide (ownsRow_below F2.out bq.out)
  have G3 := hide (G2.out.below bq.out)
  have B3 := hide (below_next B2.out bq.out)
  have hsz := bq.out.size
  have HSZ := hide hsz
  clear hmq N2 R2 W2 F2 G2 D2 B2 HON bq hsz
  have HZX : Hid (w2.heap.size + 1 ≤ w3.heap.size) := hide (by have := HSZ.out; have := HYX.out.2.2.2; omega)
  clear HSZ
  have HAS := hide (l10Lose_full w1.heap.size w2.heap.size i xa xc W ya yc F.length _ d t w3 N3.out W3.out (fun e => by have := HYX.out.2.1 _ e; omega) hWl hi HDI.out h0 h9 (by omega) h40)
  go_wp2_with fail
  refine HAS.out.mono ?_
  rintro e w4 ⟨rfl, hK4⟩
  have hz4 := hK4.size
  have B4 := hide (B3.out.trans (hK4.below (B := w.heap.size) B3.out.size (fun k hk e => by have := (World.ownsRow.lt W3.out k e).1; omega)))
  have R4 := hide (R3.out.kept hK4 (fun e => by have := (World.ownsRow.lt W3.out _ e).1; omega))
  clear hK4
  go_wp2_with fail
  refine (l10Bad_any 2 w4).mono ?_
  rintro e w9 ⟨rfl, hb9⟩
  have B9 := hide (below_next B4.out hb9)
  obtain ⟨⟨m0, m1, m2, m3⟩, k0, k1, k2, k3⟩ := R4.out.below hb9
  clear hb9
  go_wp2_with fail
  have hk := Kept.fourF w9 (w.heap.size + 1) (.int .i64 2) (.slice none 0 0) (.slice none 0 0) (.slice none 0 0)
  exact bodyPost_ret (v := .agg #[.int .i64 2, .slice none 0 0, .slice none 0 0, .slice none 0 0]) (by simp [results, Tryz.results59, go_sem, m0, m1, m2, m3]) rfl (ResF.bad (B9.out.trans (hk.below (B := w.heap.size) B9.out.size (fun k hk e => by omega))))
set_option maxRecDepth 100000 in
set_option maxHeartbeats 6400000 in
theorem specHearFetch_last (wa : Option Addr) (wk : Nat) (W : List Wn) (fa : Option Addr) (fc : Nat) (F : List Int) (ca : Option Addr) (cc n : Nat) (D : Nat → Int) (P : Nat → List Int) (d : Int) (w : World) (h : RdF w wa W fa F ca D P n) (hn : n ≤ 1048576) (hP : SmallP P n) (hWl : W.length ≤ 1048576) (hFl : F.length ≤ 1048576) (hfc : F.length ≤ fc) (da : Option Addr) (dc : Nat) (zs : List Int) (hr : Reads .u8 w da zs) (hu : U8 zs) (hl : zs.length ≤ 1048576) (hz : fetFault W F D P n = 0) (hPl : ∀ i, i < n → 0 < (P i).length ∧ (P i).length ≤ 1048576) (i : Nat) (t : Int) (hi : i < W.length) (hdi : W.getD i (0, 0) = (d, t)) (hfi : ∀ j, j < i → (W.getD j (0, 0)).1 ≠ d) (hO : oneFault d zs ≠ 0) (h0 : 0 ≤ t) (h9 : t ≤ 9) (h3 : ¬ t + 1 < 3) (h40 : ¬ 40 ≤ F.length) :
    Calls Tryz.prog 59 #[fetV wa W.length wk fa F.length fc ca n cc, .int .i64 d, .slice da zs.length dc] w (ResF 0 (W.eraseIdx i) (F ++ [d]) D P n w) := by
  have B0 := hide (below_next (below_alloc w (.cells #[.slice wa W.length wk, .slice fa F.length fc, .slice ca n cc] 28)) (below_alloc _ (.cells #[.int .i64 0, .slice none 0 0, .slice none 0 0, .slice none 0 0] 33)))
  have X0 := hide ((Bx3.new w (.slice wa W.length wk) (.slice fa F.length fc) (.slice ca n cc) 28).below (below_alloc _ (.cells #[.int .i64 0, .slice none 0 0, .slice none 0 0, .slice none 0 0] 33)))
  have R0 := hide (Bx4.new (w.alloc (.cells #[.slice wa W.length wk, .slice fa F.length fc, .slice ca n cc] 28)) (.int .i64 0) (.slice none 0 0) (.slice none 0 0) (.slice none 0 0) 33)
  have hs : (w.alloc (.cells #[.slice wa W.length wk, .slice fa F.length fc, .slice ca n cc] 28)).heap.size = w.heap.size + 1 := by simp
  rw [hs] at R0
  clear hs
  have HFF := hide (l10Fault_any w.heap.size wa wk W fa fc F ca cc n D P _ X0.out (h.below B0.out) hn hP hWl hFl hfc)
  rw [hz] at HFF
  have HAT := hide (fun (u : World) (hb : Below w.heap.size w u) (hX : Bx3 u w.heap.size (.slice wa W.length wk) (.slice fa F.length fc) (.slice ca n cc)) => l10At_yes w.heap.size wa wk i W d u hX.1.1 (h.wants.below hb) hWl hi (by rw [hdi]) hfi)
  have HCP := hide (fun (u : World) (hb : Below w.heap.size w u) => l10Copy_at wa wk W fa fc F ca cc n D P u (h.below hb) hn hPl hWl hFl)
  have HDI := hide hdi
  have HRB := hide (fun (u : World) (hb : Below w.heap.size w u) => hr.below hb)
  have HON := hide (fun (u : World) (hb : Below w.heap.size w u) => specOne_any d da dc zs u (hr.below hb) hu hl)
  have hO1 : (oneFault d zs != 0) = true := by simpa using hO
  generalize oneFault d zs = Q1 at *
  clear hO
  have hi9 : ¬ (i : Int) < 0 := by omega
  clear h hP hz hdi hfi hr hu
  unfold fetV at HCP ⊢
  go_enter Tryz.func59, Tryz.ntmps59
  go_wp2_with fail
  generalize (w.alloc (.cells #[.slice wa W.length wk, .slice fa F.length fc, .slice ca n cc] 28)).alloc (.cells #[.int .i64 0, .slice none 0 0, .slice none 0 0, .slice none 0 0] 33) = W0 at *
  refine HFF.out.mono ?_
  rintro e w1 ⟨rfl, hb1⟩
  have B1 := hide (below_next B0.out hb1)
  have X1 := hide (X0.out.below hb1)
  have R1 := hide (R0.out.below hb1)
  clear hb1 X0 R0 B0 HFF
  go_wp2_with fail
  refine (HAT.out w1 B1.out X1.out).mono ?_
  rintro e w1 ⟨rfl, rfl⟩
  obtain ⟨⟨t0, t1, t2⟩, -, -, -⟩ := X1.out
  go_wp2_with fail
  clear t0 t1 t2
  refine (HCP.out w1 B1.out).mono ?_
  rintro e w2 ⟨xa, xc, ya, yc, za, zc, T, rfl, hZA, hW2, hF2, hG2, hT2, hxT, hyT, hb2⟩
  have hzw := B1.out.size
  have hz2 := hb2.size
  have hr1 := R1.out.lt
  have B2 := hide (below_next (below_next B1.out hb2) (below_alloc w2 (.cells #[.slice xa W.length xc, .slice ya F.length yc, .slice za n zc] 28)))
  have A2 := hide (below_alloc w2 (.cells #[.slice xa W.length xc, .slice ya F.length yc, .slice za n zc] 28))
  have N2 := hide (Bx3.new w2 (.slice xa W.length xc) (.slice ya F.length yc) (.slice za n zc) 28)
  have R2 := hide ((R1.out.below hb2).below A2.out)
  have W2 := hide (hW2.below A2.out)
  have F2 := hide (ownsRow_below hF2 A2.out)
  have G2 := hide (hG2.below A2.out)
  have D2 : Hid (RdF (w2.alloc (.cells #[.slice xa W.length xc, .slice ya F.length yc, .slice za n zc] 28)) xa W ya F za D P n) := hide ⟨(hW2.below A2.out).rd, reads_owned (ownsRow_below hF2 A2.out) rfl, (hG2.rd).below A2.out⟩
  have hyl : ∀ b, (Value.slice ya F.length yc).ownBlock = some b → b < w2.heap.size := fun b hb => (hF2.lt b hb).2
  have hxl : ∀ b, (Value.slice xa W.length xc).ownBlock = some b → b < w2.heap.size := fun b hb => (World.ownsRow.lt hW2 b hb).2
  have hsz3 : (w2.alloc (.cells #[.slice xa W.length xc, .slice ya F.length yc, .slice za n zc] 28)).heap.size = w2.heap.size + 1 := by simp
  have HYX := hide (And.intro hyl (And.intro hxl (And.intro hxT hsz3)))
  have HYT := hide hyT
  clear hb2 hW2 hF2 hG2 R1 HCP HAT X1 hyl hxl hxT hyT hsz3
  go_wp2_with fail
  refine (HON.out _ B2.out).mono ?_
  rintro e w3 ⟨rfl, mq, hmq⟩
  have bq := hide (below_drewN (Below.refl (w2.alloc (.cells #[.slice xa W.length xc, .slice ya F.length yc, .slice za n zc] 28)).heap.size (w2.alloc (.cells #[.slice xa W.length xc, .slice ya F.length yc, .slice za n zc] 28))) mq)
  rw [← hmq] at bq
  have N3 := hide (N2.out.below bq.out)
  have R3 := hide (R2.out.below bq.out)
  have W3 := hide (OwnW.below W2.out bq.out)
  have F3 := hide (ownsRow_below F2.out bq.out)
  have G3 := hide (G2.out.below bq.out)
  have B3 := hide (below_next B2.out bq.out)
  have hsz := bq.out.size
  have HSZ := hide hsz
  clear hmq N2 R2 W2 F2 G2 D2 B2 HON bq hsz
  have HZX : Hid (w2.heap.size + 1 ≤ w3.heap.size) := hide (by have := HSZ.out; have := HYX.out.2.2.2; omega)
  clear HSZ
  have HAS := hide (l10Lose_last w1.heap.size w2.heap.size i xa xc W ya yc F _ d t w3 N3.out W3.out F3.out (by have := HZX.out; omega) (fun e => by have := HYX.out.2.1 _ e; omega) (fun e => by have := HYX.out.1 _ e; omega) hWl hi HDI.out h0 h9 (by omega) (by omega))
  go_wp2_with fail
  refine HAS.out.mono ?_
  rintro e w4 ⟨rfl, ua, uc, va, vc, hX4, hW4, hF4, hK4⟩
  have hz4 := hK4.size
  have G4 := hide (G3.out.kept hK4 (fun b h1 h2 e => by rcases e with e | e | e; omega; (have := HYX.out.2.2.1 b e; omega); (have := HYT.out b e; omega)))
  have B4 := hide (B3.out.trans (hK4.below (B := w.heap.size) B3.out.size (fun k hk e => by rcases e with e | e | e; omega; (have := (World.ownsRow.lt W3.out k e).1; omega); (have := (F3.out.lt k e).1; omega))))
  have R4 := hide (R3.out.kept hK4 (fun e => by rcases e with e | e | e; omega; (have := (World.ownsRow.lt W3.out _ e).1; omega); (have := (F3.out.lt _ e).1; omega)))
  have W4 := hide hW4
  have F4 := hide hF4
  obtain ⟨⟨s0, s1, s2⟩, -, -, -⟩ := hX4
  obtain ⟨⟨m0, m1, m2, m3⟩, k0, k1, k2, k3⟩ := R4.out
  clear hW4 hK4 hF4
  go_wp2_with fail
  exact bodyPost_ret (v := .agg #[.int .i64 0, .slice ua (W.eraseIdx i).length uc, .slice va (F ++ [d]).length vc, .slice za n zc]) (by simp [results, Tryz.results59, go_sem, m0, m1, m2, m3]) rfl (ResF.box (B := w1.heap.size) W4.out F4.out ((G4.out.mono hT2).wide (by have := HZX.out; omega)) B4.out (by omega) (by omega))
set_option maxRecDepth 100000 in
set_option maxHeartbeats 6400000 in
theorem specHearFetch_many (wa : Option Addr) (wk : Nat) (W : List Wn) (fa : Option Addr) (fc : Nat) (F : List Int) (ca : Option Addr) (cc n : Nat) (D : Nat → Int) (P : Nat → List Int) (d : Int) (w : World) (h : RdF w wa W fa F ca D P n) (hn : n ≤ 1048576) (hP : SmallP P n) (hWl : W.length ≤ 1048576) (hFl : F.length ≤ 1048576) (hfc : F.length ≤ fc) (da : Option Addr) (dc : Nat) (zs : List Int) (hr : Reads .u8 w da zs) (hu : U8 zs) (hl : zs.length ≤ 1048576) (hz : fetFault W F D P n = 0) (hPl : ∀ i, i < n → 0 < (P i).length ∧ (P i).length ≤ 1048576) (i : Nat) (t : Int) (hi : i < W.length) (hdi : W.getD i (0, 0) = (d, t)) (hfi : ∀ j, j < i → (W.getD j (0, 0)).1 ≠ d) (hO : oneFault d zs = 0) (hnk : ∀ j, j < n → D j ≠ d) (h40 : 40 ≤ n) :
    Calls Tryz.prog 59 #[fetV wa W.length wk fa F.length fc ca n cc, .int .i64 d, .slice da zs.length dc] w (ResF 2 [] [] D P 0 w) := by
  have B0 := hide (below_next (below_alloc w (.cells #[.slice wa W.length wk, .slice fa F.length fc, .slice ca n cc] 28)) (below_alloc _ (.cells #[.int .i64 0, .slice none 0 0, .slice none 0 0, .slice none 0 0] 33)))
  have X0 := hide ((Bx3.new w (.slice wa W.length wk) (.slice fa F.length fc) (.slice ca n cc) 28).below (below_alloc _ (.cells #[.int .i64 0, .slice none 0 0, .slice none 0 0, .slice none 0 0] 33)))
  have R0 := hide (Bx4.new (w.alloc (.cells #[.slice wa W.length wk, .slice fa F.length fc, .slice ca n cc] 28)) (.int .i64 0) (.slice none 0 0) (.slice none 0 0) (.slice none 0 0) 33)
  have hs : (w.alloc (.cells #[.slice wa W.length wk, .slice fa F.length fc, .slice ca n cc] 28)).heap.size = w.heap.size + 1 := by simp
  rw [hs] at R0
  clear hs
  have HFF := hide (l10Fault_any w.heap.size wa wk W fa fc F ca cc n D P _ X0.out (h.below B0.out) hn hP hWl hFl hfc)
  rw [hz] at HFF
  have HAT := hide (fun (u : World) (hb : Below w.heap.size w u) (hX : Bx3 u w.heap.size (.slice wa W.length wk) (.slice fa F.length fc) (.slice ca n cc)) => l10At_yes w.heap.size wa wk i W d u hX.1.1 (h.wants.below hb) hWl hi (by rw [hdi]) hfi)
  have HCP := hide (fun (u : World) (hb : Below w.heap.size w u) => l10Copy_at wa wk W fa fc F ca cc n D P u (h.below hb) hn hPl hWl hFl)
  have HDI := hide hdi
  have HRB := hide (fun (u : World) (hb : Below w.heap.size w u) => hr.below hb)
  have HON := hide (fun (u : World) (hb : Below w.heap.size w u) => specOne_any d da dc zs u (hr.below hb) hu hl)
  rw [hO] at HON
  have HF1 := hide hnk
  clear hO hnk
  have hi9 : ¬ (i : Int) < 0 := by omega
  clear h hP hz hdi hfi hr hu
  unfold fetV at HCP ⊢
  go_enter Tryz.func59, Tryz.ntmps59
  go_wp2_with fail
  generalize (w.alloc (.cells #[.slice wa W.length wk, .slice fa F.length fc, .slice ca n cc] 28)).alloc (.cells #[.int .i64 0, .slice none 0 0, .slice none 0 0, .slice none 0 0] 33) = W0 at *
  refine HFF.out.mono ?_
  rintro e w1 ⟨rfl, hb1⟩
  have B1 := hide (below_next B0.out hb1)
  have X1 := hide (X0.out.below hb1)
  have R1 := hide (R0.out.below hb1)
  clear hb1 X0 R0 B0 HFF
  go_wp2_with fail
  refine (HAT.out w1 B1.out X1.out).mono ?_
  rintro e w1 ⟨rfl, rfl⟩
  obtain ⟨⟨t0, t1, t2⟩, -, -, -⟩ := X1.out
  go_wp2_with fail
  clear t0 t1 t2
  refine (HCP.out w1 B1.out).mono ?_
  rintro e w2 ⟨xa, xc, ya, yc, za, zc, T, rfl, hZA, hW2, hF2, hG2, hT2, hxT, hyT, hb2⟩
  have hzw := B1.out.size
  have hz2 := hb2.size
  have hr1 := R1.out.lt
  have B2 := hide (below_next (below_next B1.out hb2) (below_alloc w2 (.cells #[.slice xa W.length xc, .slice ya F.length yc, .slice za n zc] 28)))
  have A2 := hide (below_alloc w2 (.cells #[.slice xa W.length xc, .slice ya F.length yc, .slice za n zc] 28))
  have N2 := hide (Bx3.new w2 (.slice xa W.length xc) (.slice ya F.length yc) (.slice za n zc) 28)
  have R2 := hide ((R1.out.below hb2).below A2.out)
  have W2 := hide (hW2.below A2.out)
  have F2 := hide (ownsRow_below hF2 A2.out)
  have G2 := hide (hG2.below A2.out)
  have D2 : Hid (RdF (w2.alloc (.cells #[.slice xa W.length xc, .slice ya F.length yc, .slice za n zc] 28)) xa W ya F za D P n) := hide ⟨(hW2.below A2.out).rd, reads_owned (ownsRow_below hF2 A2.out) rfl, (hG2.rd).below A2.out⟩
  have hyl : ∀ b, (Value.slice ya F.length yc).ownBlock = some b → b < w2.heap.size := fun b hb => (hF2.lt b hb).2
  have hxl : ∀ b, (Value.slice xa W.length xc).ownBlock = some b → b < w2.heap.size := fun b hb => (World.ownsRow.lt hW2 b hb).2
  have hsz3 : (w2.alloc (.cells #[.slice xa W.length xc, .slice ya F.length yc, .slice za n zc] 28)).heap.size = w2.heap.size + 1 := by simp
  have HYX := hide (And.intro hyl (And.intro hxl (And.intro hxT hsz3)))
  have HYT := hide hyT
  clear hb2 hW2 hF2 hG2 R1 HCP HAT X1 hyl hxl hxT hyT hsz3
  go_wp2_with fail
  refine (HON.out _ B2.out).mono ?_
  rintro e w3 ⟨rfl, mq, hmq⟩
  have bq := hide (below_drewN (Below.refl (w2.alloc (.cells #[.slice xa W.length xc, .slice ya F.length yc, .slice za n zc] 28)).heap.size (w2.alloc (.cells #[.slice xa W.length xc, .slice ya F.length yc, .slice za n zc] 28))) mq)
  rw [← hmq] at bq
  have N3 := hide (N2.out.below bq.out)
  have R3 := hide (R2.out.below bq.out)
  have W3 := hide (OwnW.below W2.out bq.out)
  have F3 := hide (ownsRow_below F2.out bq.out)
  have G3 := hide (G2.out.below bq.out)
  have B3 := hide (below_next B2.out bq.out)
  have hsz := bq.out.size
  have HSZ := hide hsz
  clear hmq N2 R2 W2 F2 G2 D2 B2 HON bq hsz
  have HZX : Hid (w2.heap.size + 1 ≤ w3.heap.size) := hide (by have := HSZ.out; have := HYX.out.2.2.2; omega)
  clear HSZ
  have HPT := hide (l2Put_full za zc n D P d da zs.length dc w3 G3.out.rd hn HF1.out h40)
  obtain ⟨⟨s0, s1, s2⟩, -, -, -⟩ := N3.out
  go_wp2_with fail
  refine HPT.out.mono ?_
  rintro e w4 ⟨rfl, hb4⟩
  have B4 := hide (below_next B3.out hb4)
  have R4 := hide (R3.out.below hb4)
  clear hb4 s0 s1 s2
  go_wp2_with fail
  refine (l10Bad_any 2 w4).mono ?_
  rintro e w9 ⟨rfl, hb9⟩
  have B9 := hide (below_next B4.out hb9)
  obtain ⟨⟨m0, m1, m2, m3⟩, k0, k1, k2, k3⟩ := R4.out.below hb9
  clear hb9
  go_wp2_with fail
  have hk := Kept.fourF w9 (w.heap.size + 1) (.int .i64 2) (.slice none 0 0) (.slice none 0 0) (.slice none 0 0)
  exact bodyPost_ret (v := .agg #[.int .i64 2, .slice none 0 0, .slice none 0 0, .slice none 0 0]) (by simp [results, Tryz.results59, go_sem, m0, m1, m2, m3]) rfl (ResF.bad (B9.out.trans (hk.below (B := w.heap.size) B9.out.size (fun k hk e => by omega))))
end Go.Proofs.YtejfcapocikjmaaGreatDoor

