/-
  The program's item put among the others; WriteTree and MakeDir.
-/
import Derived.Test.YtjkmbicedbdifaaGreatTreH
import Derived.Test.YtjkmbicedbdifaaGreatIteF
namespace Go.Proofs.YtjkmbicedbdifaaGreat
open Go.RowKit Go.Maps Go.Sort
set_option linter.unusedVariables false
attribute [local go_sem ↓] Go.wp_at_zero Go.wp_at_succ

theorem news_item {u : World} {b : Nat} {e : En} {x : Option Addr} {cc : Nat} (h : Four u b (.int .i64 e.size) (.slice x e.chunks.length cc) (.string (str e.path)) (.int .i64 e.kind)) : ∀ j v, (cellsI ⟨e, x, cc⟩)[j]? = some v → u.cell? ((⟨b, 0, none⟩ : Addr).add j) = some v := by
  intro j v hj
  rw [addr_add, Nat.zero_add]
  obtain ⟨h0, h1, h2, h3⟩ := h
  match j, hj with
  | 0, hj => simp [cellsI] at hj; subst hj; exact h0
  | 1, hj => simp [cellsI] at hj; subst hj; exact h1
  | 2, hj => simp [cellsI] at hj; subst hj; exact h2
  | 3, hj => simp [cellsI] at hj; subst hj; exact h3
set_option maxRecDepth 100000 in
set_option maxHeartbeats 6400000 in
theorem withItem_any (a : Option Addr) (c n : Nat) (es : List En) (e : En) (x : Option Addr) (cc : Nat) (w : World) (h : RdI w a es) (hn : n = es.length) (hl : es.length ≤ 1048575) (hs : SmallE es) (hr : Rise es) (hx : Reads .i64 w x e.chunks) :
    Calls Tryz.prog 138 #[.slice a n c, .agg #[.int .i64 e.size, .slice x e.chunks.length cc, .string (str e.path), .int .i64 e.kind]] w fun r w' => ∃ g cv, r = .returned (.slice (some ⟨g, 0, none⟩) (putAt (offE es e.path) e).length cv) ∧ RdI w' (some ⟨g, 0, none⟩) (putAt (offE es e.path) e) ∧ Below w.heap.size w w' := by
  subst hn
  obtain ⟨i1, ki, kz0, kz1, kz2⟩ := info_parts Tryz.infoIt
  have B0 := hide (below_alloc w (.cells #[.int .i64 e.size, .slice x e.chunks.length cc, .string (str e.path), .int .i64 e.kind] 64))
  have F0 := hide (Four.new w (.int .i64 e.size) (.slice x e.chunks.length cc) (.string (str e.path)) (.int .i64 e.kind) 64)
  have HR := hide (h.below B0.out)
  have HX := hide (hx.below B0.out)
  have HS := hide hs
  have hle : es.length ≤ 1048576 := by omega
  have hoff := offE_len es e.path
  have HRI := hide (off_rise hr e.path)
  have HNE := hide (show ∀ y ∈ offE es e.path, y.path ≠ e.path from fun y hy => (mem_offE.1 hy).2)
  have HPL := hide (show (putAt (offE es e.path) e).length = (offE es e.path).length + 1 from by unfold putAt; simp only [List.length_append, List.length_cons, List.length_take, List.length_drop]; omega)
  clear h hs hr hx
  go_enter Tryz.func138, Tryz.ntmps138
  go_wp2_with fail
  generalize w.alloc (.cells #[.int .i64 e.size, .slice x e.chunks.length cc, .string (str e.path), .int .i64 e.kind] 64) = W0 at *
  have KC : Hid (∀ w' : World, Below W0.heap.size W0 w' → w'.cell? ⟨w.heap.size, 0, none⟩ = some (.int .i64 e.size) ∧ w'.cell? ⟨w.heap.size, 1, none⟩ = some (.slice x e.chunks.length cc) ∧ w'.cell? ⟨w.heap.size, 2, none⟩ = some (.string (str e.path)) ∧ w'.cell? ⟨w.heap.size, 3, none⟩ = some (.int .i64 e.kind)) := hide (fun w' hb => F0.out.below hb)
  refine wp_region_held_drew (S := fun w' => w'.cell? ⟨w.heap.size, 0, none⟩ = some (.int .i64 e.size) ∧ w'.cell? ⟨w.heap.size, 1, none⟩ = some (.slice x e.chunks.length cc) ∧ w'.cell? ⟨w.heap.size, 2, none⟩ = some (.string (str e.path)) ∧ w'.cell? ⟨w.heap.size, 3, none⟩ = some (.int .i64 e.kind)) (by kernel_rfl) (KC.out _ (Below.refl _ _).drew) (fun hHeld => ?_)
  change wpAnyH _ _ _ _ _ _ (Array.replicate _ false) _ _
  refine wpAnyH_take (i := 0) (oi := { dst := some 6, op := _, type := _, pos := _, after := _, guard := _ }) (v := .slice a es.length c) rfl (by kernel_rfl) (by kernel_rfl) (by kernel_rfl) (fun _ _ _ h => h) (Or.inl ⟨by rfl, ?_⟩) hHeld ?_
  · intro w hSw
    (try obtain ⟨q0, q1, q2, q3⟩ := hSw)
    go_simp
  try simp only [Act.put, List.setIfInBounds_toArray, List.set_cons_zero, List.set_cons_succ]
  refine wpAnyH_take (i := 1) (oi := { dst := some 7, op := _, type := _, pos := _, after := _, guard := _ }) (v := .pointer (some ⟨w.heap.size, 2, none⟩)) rfl (by kernel_rfl) (by kernel_rfl) (by kernel_rfl) (fun _ _ _ h => h) (Or.inl ⟨by rfl, ?_⟩) hHeld ?_
  · intro w hSw
    (try obtain ⟨q0, q1, q2, q3⟩ := hSw)
    go_simp
  try simp only [Act.put, List.setIfInBounds_toArray, List.set_cons_zero, List.set_cons_succ]
  refine wpAnyH_take (i := 2) (oi := { dst := some 8, op := _, type := _, pos := _, after := _, guard := _ }) (v := .string (str e.path)) rfl (by kernel_rfl) (by kernel_rfl) (by kernel_rfl) (fun _ _ _ h => h) (Or.inl ⟨by rfl, ?_⟩) hHeld ?_
  · intro w hSw
    (try obtain ⟨q0, q1, q2, q3⟩ := hSw)
    go_simp
  try simp only [Act.put, List.setIfInBounds_toArray, List.set_cons_zero, List.set_cons_succ]
  refine wpAnyH_take (i := 5) (oi := { dst := some 11, op := _, type := _, pos := _, after := _, guard := _ }) (v := .agg #[.int .i64 e.size, .slice x e.chunks.length cc, .string (str e.path), .int .i64 e.kind]) rfl (by kernel_rfl) (by kernel_rfl) (by kernel_rfl) (fun _ _ _ h => h) (Or.inl ⟨by rfl, ?_⟩) hHeld ?_
  · intro w hSw
    (try obtain ⟨q0, q1, q2, q3⟩ := hSw)
    go_simp
  try simp only [Act.put, List.setIfInBounds_toArray, List.set_cons_zero, List.set_cons_succ]
  have hm1 : (offE es e.path).length + 1 ≤ maxLen := by unfold maxLen; omega
  have hm2 : ((offE es e.path).length + 1) * 56 ≤ 140737488355328 := by omega
  refine wpAnyH_ready (rs := [3, 6]) (by kernel_rfl) (by simp) ?_
  refine AllReadyH.cons rfl (fun K hK => ?_) (AllReadyH.cons rfl (fun K hK => ?_) AllReadyH.nil)
  · -- isAt first
    go_simp
    refine (isAt_any e.path _).mono ?_
    rintro r w3 ⟨rfl, hb3, hA⟩
    have HA := hide hA
    have B3 := hide (below_next ((Below.refl W0.heap.size W0).drew) hb3)
    clear hA hb3
    go_wp2_with fail
    refine hK.out _ _ (KC.out _ B3.out) (fun hHeld => ?_)
    clear hK K
    refine wpAnyH_ready (rs := [4, 6]) (by kernel_rfl) (by simp) ?_
    refine AllReadyH.cons rfl (fun K hK => ?_) (AllReadyH.cons rfl (fun K hK => ?_) AllReadyH.nil)
    · -- without, then the row
      go_simp
      refine (without_any a c es.length es _ _ _ _ (HR.out.below (B3.out)) rfl hle HS.out (HA.out.next (Below.refl _ _))).mono ?_
      rintro r w4 ⟨av4, cv4, w1, rfl, hL4, hb4, hb4'⟩
      have B1 := hide (below_next (B3.out) hb4)
      have B4 := hide (below_next B1.out hb4')
      have HL4 : Hid (LI w1 w4 (.slice av4 (offE es e.path).length cv4) (offE es e.path)) := hide hL4
      have BB4 := hide hb4'
      clear hL4 hb4 hb4'
      go_wp2_with fail
      refine hK.out _ _ (KC.out _ B4.out) (fun hHeld => ?_)
      clear hK K
      refine wpAnyH_ready (rs := [6]) (by kernel_rfl) (by simp) ?_
      refine AllReadyH.cons rfl (fun K hK => ?_) AllReadyH.nil
      have F4 := hide (Four.new w4 (.int .i64 e.size) (.slice x e.chunks.length cc) (.string (str e.path)) (.int .i64 e.kind) 64)
      have B5 := hide (below_next B4.out (below_alloc w4 (.cells #[.int .i64 e.size, .slice x e.chunks.length cc, .string (str e.path), .int .i64 e.kind] 64)))
      have BB5 := hide (below_next BB4.out (below_alloc w4 (.cells #[.int .i64 e.size, .slice x e.chunks.length cc, .string (str e.path), .int .i64 e.kind] 64)))
      go_simp
      refine hK.out _ _ (KC.out _ (B5.out)) (fun hHeld => ?_)
      clear hK K
      obtain ⟨rs, g1, g2, g3⟩ := HL4.out
      have G1 := hide g1
      have G3 := hide g3
      have G2 := hide (ownsRow_below g2 (below_alloc w4 (.cells #[.int .i64 e.size, .slice x e.chunks.length cc, .string (str e.path), .int .i64 e.kind] 64)))
      clear g1 g2 g3
      have hs4 := BB4.out.size
      refine wpAnyH_ready (rs := [7]) (by kernel_rfl) (by simp) ?_
      refine AllReadyH.cons (o := { dst := some 13, op := _, type := _, pos := _, after := _, guard := _ }) rfl (fun K hK => ?_) AllReadyH.nil
      refine step_app (by rfl) (.tmp 10) (.tmp 12) 55 (by rfl) w1.heap.size 64 i1 (.agg #[.int .i64 0, .slice none 0 0, .string ⟨#[]⟩, .int .i64 0]) 4 56 Tryz.underlying55 ki kz0 kz1 kz2 rfl (by decide) (.slice av4 (offE es e.path).length cv4) (offE es e.path).length (rowI rs) (by rfl) G2.out ⟨w4.heap.size, 0, none⟩ 1 1 (cellsI ⟨e, x, cc⟩) (by rfl) (by rfl) (news_item F4.out) (fun v hv => rowI_one [⟨e, x, cc⟩] v (by simpa [rowI] using hv)) ((offE es e.path).length + 1) rfl hm1 hm2 (by have := (BB5.out).size; omega) ?_
      intro av7 cv7 w7 hown7 hk7
      have O7 := hide hown7
      have B7 := hide ((B5.out).trans (hk7.below (B := W0.heap.size) (B5.out).size (fun q hq hS => by have h1 := (G2.out.lt q hS).1; have h2 := B1.out.size; omega)))
      have BB7 := hide (Kept.below_own (B := w1.heap.size) (BB5.out) (BB5.out).size G2.out hk7)
      clear hown7 hk7
      obtain ⟨g, rfl, hso⟩ := withItem_end w (offE es e.path) e x cc rs av7 cv7 w1 w7 G1.out G3.out (HX.out.below B1.out) BB7.out (by have h1 := B0.out.size; have h2 := B1.out.size; omega) (below_next B0.out B7.out) O7.out (by omega) HRI.out HNE.out
      have HSO := hide hso
      clear hso
      refine hK.out _ _ (KC.out _ B7.out) (fun hHeld => ?_)
      clear hK K
      simp only [Act.put, List.setIfInBounds_toArray, List.set_cons_zero, List.set_cons_succ]
      refine wpAnyH_take (i := 8) (oi := { dst := some 5, op := _, type := _, pos := _, after := _, guard := _ }) (v := .slice (some ⟨g, 0, none⟩) ((offE es e.path).length + 1) cv7) rfl (by kernel_rfl) (by kernel_rfl) (by kernel_rfl) (fun _ _ _ h => h) (Or.inl ⟨by rfl, ?_⟩) hHeld ?_
      · intro w hSw
        go_simp
      simp only [Act.put, List.setIfInBounds_toArray, List.set_cons_zero, List.set_cons_succ]
      refine wpAnyH_done (by kernel_rfl) ?_ _
      go_wp2_with fail
      refine HSO.out.mono ?_
      rintro r w8 ⟨rfl, hri, hb8⟩
      have RI := hide hri
      have B8 := hide hb8
      clear hri hb8
      go_wp2_with fail
      go_ret
      exact ⟨g, cv7, by rw [HPL.out]; rfl, RI.out, B8.out⟩
    · -- the row, then without
      have F4 := hide (Four.new w3 (.int .i64 e.size) (.slice x e.chunks.length cc) (.string (str e.path)) (.int .i64 e.kind) 64)
      have B5 := hide (below_next B3.out (below_alloc w3 (.cells #[.int .i64 e.size, .slice x e.chunks.length cc, .string (str e.path), .int .i64 e.kind] 64)))
      go_simp
      refine hK.out _ _ (KC.out _ (B5.out)) (fun hHeld => ?_)
      clear hK K
      refine wpAnyH_ready (rs := [4]) (by kernel_rfl) (by simp) ?_
      refine AllReadyH.cons rfl (fun K hK => ?_) AllReadyH.nil
      go_simp
      refine (without_any a c es.length es _ _ _ _ (HR.out.below (B5.out)) rfl hle HS.out (HA.out.next (below_alloc w3 (.cells #[.int .i64 e.size, .slice x e.chunks.length cc, .string (str e.path), .int .i64 e.kind] 64)))).mono ?_
      rintro r w4 ⟨av4, cv4, w1, rfl, hL4, hb4, hb4'⟩
      have B1 := hide (below_next (B5.out) hb4)
      have B4 := hide (below_next B1.out hb4')
      have HL4 : Hid (LI w1 w4 (.slice av4 (offE es e.path).length cv4) (offE es e.path)) := hide hL4
      have BB4 := hide hb4'
      have F5 := hide ((F4.out.below hb4).below hb4')
      clear hL4 hb4 hb4'
      go_wp2_with fail
      refine hK.out _ _ (KC.out _ B4.out) (fun hHeld => ?_)
      clear hK K
      obtain ⟨rs, g1, g2, g3⟩ := HL4.out
      have G1 := hide g1
      have G3 := hide g3
      have G2 := hide (g2)
      clear g1 g2 g3
      have hs4 := BB4.out.size
      refine wpAnyH_ready (rs := [7]) (by kernel_rfl) (by simp) ?_
      refine AllReadyH.cons (o := { dst := some 13, op := _, type := _, pos := _, after := _, guard := _ }) rfl (fun K hK => ?_) AllReadyH.nil
      refine step_app (by rfl) (.tmp 10) (.tmp 12) 55 (by rfl) w1.heap.size 64 i1 (.agg #[.int .i64 0, .slice none 0 0, .string ⟨#[]⟩, .int .i64 0]) 4 56 Tryz.underlying55 ki kz0 kz1 kz2 rfl (by decide) (.slice av4 (offE es e.path).length cv4) (offE es e.path).length (rowI rs) (by rfl) G2.out ⟨w3.heap.size, 0, none⟩ 1 1 (cellsI ⟨e, x, cc⟩) (by rfl) (by rfl) (news_item F5.out) (fun v hv => rowI_one [⟨e, x, cc⟩] v (by simpa [rowI] using hv)) ((offE es e.path).length + 1) rfl hm1 hm2 (by have := (BB4.out).size; omega) ?_
      intro av7 cv7 w7 hown7 hk7
      have O7 := hide hown7
      have B7 := hide ((B4.out).trans (hk7.below (B := W0.heap.size) (B4.out).size (fun q hq hS => by have h1 := (G2.out.lt q hS).1; have h2 := B1.out.size; omega)))
      have BB7 := hide (Kept.below_own (B := w1.heap.size) (BB4.out) (BB4.out).size G2.out hk7)
      clear hown7 hk7
      obtain ⟨g, rfl, hso⟩ := withItem_end w (offE es e.path) e x cc rs av7 cv7 w1 w7 G1.out G3.out (HX.out.below B1.out) BB7.out (by have h1 := B0.out.size; have h2 := B1.out.size; omega) (below_next B0.out B7.out) O7.out (by omega) HRI.out HNE.out
      have HSO := hide hso
      clear hso
      refine hK.out _ _ (KC.out _ B7.out) (fun hHeld => ?_)
      clear hK K
      simp only [Act.put, List.setIfInBounds_toArray, List.set_cons_zero, List.set_cons_succ]
      refine wpAnyH_take (i := 8) (oi := { dst := some 5, op := _, type := _, pos := _, after := _, guard := _ }) (v := .slice (some ⟨g, 0, none⟩) ((offE es e.path).length + 1) cv7) rfl (by kernel_rfl) (by kernel_rfl) (by kernel_rfl) (fun _ _ _ h => h) (Or.inl ⟨by rfl, ?_⟩) hHeld ?_
      · intro w hSw
        go_simp
      simp only [Act.put, List.setIfInBounds_toArray, List.set_cons_zero, List.set_cons_succ]
      refine wpAnyH_done (by kernel_rfl) ?_ _
      go_wp2_with fail
      refine HSO.out.mono ?_
      rintro r w8 ⟨rfl, hri, hb8⟩
      have RI := hide hri
      have B8 := hide hb8
      clear hri hb8
      go_wp2_with fail
      go_ret
      exact ⟨g, cv7, by rw [HPL.out]; rfl, RI.out, B8.out⟩
  · -- the row first
    have F4 := hide ((Four.new W0 (.int .i64 e.size) (.slice x e.chunks.length cc) (.string (str e.path)) (.int .i64 e.kind) 64).below (Below.refl _ _).drew)
    have B5 := hide ((below_alloc W0 (.cells #[.int .i64 e.size, .slice x e.chunks.length cc, .string (str e.path), .int .i64 e.kind] 64)).drew)
    go_simp
    refine hK.out _ _ (KC.out _ (B5.out)) (fun hHeld => ?_)
    clear hK K
    generalize (W0.alloc (.cells #[.int .i64 e.size, .slice x e.chunks.length cc, .string (str e.path), .int .i64 e.kind] 64)).drew = V at *
    refine wpAnyH_ready (rs := [3]) (by kernel_rfl) (by simp) ?_
    refine AllReadyH.cons rfl (fun K hK => ?_) AllReadyH.nil
    go_simp
    refine (isAt_any e.path _).mono ?_
    rintro r w3 ⟨rfl, hb3, hA⟩
    have HA := hide hA
    have B3 := hide (below_next (B5.out) hb3)
    have F3 := hide (F4.out.below hb3)
    clear hA hb3
    go_wp2_with fail
    refine hK.out _ _ (KC.out _ B3.out) (fun hHeld => ?_)
    clear hK K
    refine wpAnyH_ready (rs := [4]) (by kernel_rfl) (by simp) ?_
    refine AllReadyH.cons rfl (fun K hK => ?_) AllReadyH.nil
    go_simp
    refine (without_any a c es.length es _ _ _ _ (HR.out.below (B3.out)) rfl hle HS.out (HA.out.next (Below.refl _ _))).mono ?_
    rintro r w4 ⟨av4, cv4, w1, rfl, hL4, hb4, hb4'⟩
    have B1 := hide (below_next (B3.out) hb4)
    have B4 := hide (below_next B1.out hb4')
    have HL4 : Hid (LI w1 w4 (.slice av4 (offE es e.path).length cv4) (offE es e.path)) := hide hL4
    have BB4 := hide hb4'
    have F5 := hide ((F3.out.below hb4).below hb4')
    clear hL4 hb4 hb4'
    go_wp2_with fail
    refine hK.out _ _ (KC.out _ B4.out) (fun hHeld => ?_)
    clear hK K
    obtain ⟨rs, g1, g2, g3⟩ := HL4.out
    have G1 := hide g1
    have G3 := hide g3
    have G2 := hide (g2)
    clear g1 g2 g3
    have hs4 := BB4.out.size
    refine wpAnyH_ready (rs := [7]) (by kernel_rfl) (by simp) ?_
    refine AllReadyH.cons (o := { dst := some 13, op := _, type := _, pos := _, after := _, guard := _ }) rfl (fun K hK => ?_) AllReadyH.nil
    refine step_app (by rfl) (.tmp 10) (.tmp 12) 55 (by rfl) w1.heap.size 64 i1 (.agg #[.int .i64 0, .slice none 0 0, .string ⟨#[]⟩, .int .i64 0]) 4 56 Tryz.underlying55 ki kz0 kz1 kz2 rfl (by decide) (.slice av4 (offE es e.path).length cv4) (offE es e.path).length (rowI rs) (by rfl) G2.out ⟨W0.heap.size, 0, none⟩ 1 1 (cellsI ⟨e, x, cc⟩) (by rfl) (by rfl) (news_item F5.out) (fun v hv => rowI_one [⟨e, x, cc⟩] v (by simpa [rowI] using hv)) ((offE es e.path).length + 1) rfl hm1 hm2 (by have := (BB4.out).size; omega) ?_
    intro av7 cv7 w7 hown7 hk7
    have O7 := hide hown7
    have B7 := hide ((B4.out).trans (hk7.below (B := W0.heap.size) (B4.out).size (fun q hq hS => by have h1 := (G2.out.lt q hS).1; have h2 := B1.out.size; omega)))
    have BB7 := hide (Kept.below_own (B := w1.heap.size) (BB4.out) (BB4.out).size G2.out hk7)
    clear hown7 hk7
    obtain ⟨g, rfl, hso⟩ := withItem_end w (offE es e.path) e x cc rs av7 cv7 w1 w7 G1.out G3.out (HX.out.below B1.out) BB7.out (by have h1 := B0.out.size; have h2 := B1.out.size; omega) (below_next B0.out B7.out) O7.out (by omega) HRI.out HNE.out
    have HSO := hide hso
    clear hso
    refine hK.out _ _ (KC.out _ B7.out) (fun hHeld => ?_)
    clear hK K
    simp only [Act.put, List.setIfInBounds_toArray, List.set_cons_zero, List.set_cons_succ]
    refine wpAnyH_take (i := 8) (oi := { dst := some 5, op := _, type := _, pos := _, after := _, guard := _ }) (v := .slice (some ⟨g, 0, none⟩) ((offE es e.path).length + 1) cv7) rfl (by kernel_rfl) (by kernel_rfl) (by kernel_rfl) (fun _ _ _ h => h) (Or.inl ⟨by rfl, ?_⟩) hHeld ?_
    · intro w hSw
      go_simp
    simp only [Act.put, List.setIfInBounds_toArray, List.set_cons_zero, List.set_cons_succ]
    refine wpAnyH_done (by kernel_rfl) ?_ _
    go_wp2_with fail
    refine HSO.out.mono ?_
    rintro r w8 ⟨rfl, hri, hb8⟩
    have RI := hide hri
    have B8 := hide hb8
    clear hri hb8
    go_wp2_with fail
    go_ret
    exact ⟨g, cv7, by rw [HPL.out]; rfl, RI.out, B8.out⟩
end Go.Proofs.YtjkmbicedbdifaaGreat
