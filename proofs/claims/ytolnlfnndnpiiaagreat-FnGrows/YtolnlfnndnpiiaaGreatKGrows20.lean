/-
  Texts put together: TreI MerP MerQ MerR.
-/
import Derived.Test.YtolnlfnndnpiiaaGreatKGrows19
import Derived.Test.YtolnlfnndnpiiaaGreatKGrows7
import Derived.Deep.RegionHeld3
import Derived.Test.YtolnlfnndnpiiaaGreatKGrows9
namespace Go.Proofs.YtolnlfnndnpiiaaGreat
open Go.RowKit Go.Maps Go.Sort
set_option linter.unusedVariables false
attribute [local go_sem ↓] Go.wp_at_zero Go.wp_at_succ

theorem news_item {u : World} {b : Nat} {e : En} {x : Option Addr} {cc : Nat} (h : Four u b (.int .i64 e.size) (.slice x e.chunks.length cc) (.string (str e.path)) (.int .i64 e.kind)) : ∀ j v, (cellsI ⟨e, x, cc⟩)[j]? = some v → u.cell? ((⟨b, 0, none⟩ : Addr).add j) = some v := by
  intro j v hj
  rw [addr_add, Nat.zero_add]
  obtain ⟨h0, h1, h2, h3⟩ := h
  match j, hj with
  | 0, hj => simp [cellsI] at hj; subst hj; exact h0
  | 1, hj => simp [cellsI] at hj; subst hj; exact h1
  | 2, hj => simp [cellsI] at hj; subst hj; exact h2
  | 3, hj => simp [cellsI] at hj; subst hj; exact h3
set_option maxRecDepth 100000 in
set_option maxHeartbeats 6400000 in
theorem withItem_any (a : Option Addr) (c n : Nat) (es : List En) (e : En) (x : Option Addr) (cc : Nat) (w : World) (h : RdI w a es) (hn : n = es.length) (hl : es.length ≤ 1048575) (hs : SmallE es) (hr : Rise es) (hx : Reads .i64 w x e.chunks) :
    Calls Tryz.prog 183 #[.slice a n c, .agg #[.int .i64 e.size, .slice x e.chunks.length cc, .string (str e.path), .int .i64 e.kind]] w fun r w' => ∃ g cv, r = .returned (.slice (some ⟨g, 0, none⟩) (putAt (offE es e.path) e).length cv) ∧ RdI w' (some ⟨g, 0, none⟩) (putAt (offE es e.path) e) ∧ Below w.heap.size w w' := by
  subst hn
  obtain ⟨i1, ki, kz0, kz1, kz2⟩ := info_parts Tryz.infoIt
  have B0 := hide (below_alloc w (.cells #[.int .i64 e.size, .slice x e.chunks.length cc, .string (str e.path), .int .i64 e.kind] 88))
  have F0 := hide (Four.new w (.int .i64 e.size) (.slice x e.chunks.length cc) (.string (str e.path)) (.int .i64 e.kind) 88)
  have HR := hide (h.below B0.out)
  have HX := hide (hx.below B0.out)
  have HS := hide hs
  have hle : es.length ≤ 1048576 := by omega
  have hoff := offE_len es e.path
  have HRI := hide (off_rise hr e.path)
  have HNE := hide (show ∀ y ∈ offE es e.path, y.path ≠ e.path from fun y hy => (mem_offE.1 hy).2)
  have HPL := hide (show (putAt (offE es e.path) e).length = (offE es e.path).length + 1 from by unfold putAt; simp only [List.length_append, List.length_cons, List.length_take, List.length_drop]; omega)
  clear h hs hr hx
  go_enter Tryz.func183, Tryz.ntmps183
  go_wp2_with fail
  generalize w.alloc (.cells #[.int .i64 e.size, .slice x e.chunks.length cc, .string (str e.path), .int .i64 e.kind] 88) = W0 at *
  have KC : Hid (∀ w' : World, Below W0.heap.size W0 w' → w'.cell? ⟨w.heap.size, 0, none⟩ = some (.int .i64 e.size) ∧ w'.cell? ⟨w.heap.size, 1, none⟩ = some (.slice x e.chunks.length cc) ∧ w'.cell? ⟨w.heap.size, 2, none⟩ = some (.string (str e.path)) ∧ w'.cell? ⟨w.heap.size, 3, none⟩ = some (.int .i64 e.kind)) := hide (fun w' hb => F0.out.below hb)
  refine wp_region_held_drew (S := fun w' => w'.cell? ⟨w.heap.size, 0, none⟩ = some (.int .i64 e.size) ∧ w'.cell? ⟨w.heap.size, 1, none⟩ = some (.slice x e.chunks.length cc) ∧ w'.cell? ⟨w.heap.size, 2, none⟩ = some (.string (str e.path)) ∧ w'.cell? ⟨w.heap.size, 3, none⟩ = some (.int .i64 e.kind)) (by kernel_rfl) (KC.out _ (Below.refl _ _).drew) (fun hHeld => ?_)
  change wpAnyH _ _ _ _ _ _ (Array.replicate _ false) _ _
  refine wpAnyH_take (i := 0) (oi := { dst := some 6, op := _, type := _, pos := _, after := _, guard := _ }) (v := .slice a es.length c) rfl (by kernel_rfl) (by kernel_rfl) (by kernel_rfl) (fun _ _ _ h => h) (Or.inl ⟨by rfl, ?_⟩) hHeld ?_
  · intro w hSw
    (try obtain ⟨q0, q1, q2, q3⟩ := hSw)
    go_simp
  try simp only [Act.put, List.setIfInBounds_toArray, List.set_cons_zero, List.set_cons_succ]
  refine wpAnyH_take (i := 1) (oi := { dst := some 7, op := _, type := _, pos := _, after := _, guard := _ }) (v := .pointer (some ⟨w.heap.size, 2, none⟩)) rfl (by kernel_rfl) (by kernel_rfl) (by kernel_rfl) (fun _ _ _ h => h) (Or.inl ⟨by rfl, ?_⟩) hHeld ?_
  · intro w hSw
    (try obtain ⟨q0, q1, q2, q3⟩ := hSw)
    go_simp
  try simp only [Act.put, List.setIfInBounds_toArray, List.set_cons_zero, List.set_cons_succ]
  refine wpAnyH_take (i := 2) (oi := { dst := some 8, op := _, type := _, pos := _, after := _, guard := _ }) (v := .string (str e.path)) rfl (by kernel_rfl) (by kernel_rfl) (by kernel_rfl) (fun _ _ _ h => h) (Or.inl ⟨by rfl, ?_⟩) hHeld ?_
  · intro w hSw
    (try obtain ⟨q0, q1, q2, q3⟩ := hSw)
    go_simp
  try simp only [Act.put, List.setIfInBounds_toArray, List.set_cons_zero, List.set_cons_succ]
  refine wpAnyH_take (i := 5) (oi := { dst := some 11, op := _, type := _, pos := _, after := _, guard := _ }) (v := .agg #[.int .i64 e.size, .slice x e.chunks.length cc, .string (str e.path), .int .i64 e.kind]) rfl (by kernel_rfl) (by kernel_rfl) (by kernel_rfl) (fun _ _ _ h => h) (Or.inl ⟨by rfl, ?_⟩) hHeld ?_
  · intro w hSw
    (try obtain ⟨q0, q1, q2, q3⟩ := hSw)
    go_simp
  try simp only [Act.put, List.setIfInBounds_toArray, List.set_cons_zero, List.set_cons_succ]
  have hm1 : (offE es e.path).length + 1 ≤ maxLen := by unfold maxLen; omega
  have hm2 : ((offE es e.path).length + 1) * 56 ≤ 140737488355328 := by omega
  refine wpAnyH_ready (rs := [3, 6]) (by kernel_rfl) (by simp) ?_
  refine AllReadyH.cons rfl (fun K hK => ?_) (AllReadyH.cons rfl (fun K hK => ?_) AllReadyH.nil)
  · -- isAt first
    go_simp
    refine (isAt_any e.path _).mono ?_
    rintro r w3 ⟨rfl, hb3, hA⟩
    have HA := hide hA
    have B3 := hide (below_next ((Below.refl W0.heap.size W0).drew) hb3)
    clear hA hb3
    go_wp2_with fail
    refine hK.out _ _ (KC.out _ B3.out) (fun hHeld => ?_)
    clear hK K
    refine wpAnyH_ready (rs := [4, 6]) (by kernel_rfl) (by simp) ?_
    refine AllReadyH.cons rfl (fun K hK => ?_) (AllReadyH.cons rfl (fun K hK => ?_) AllReadyH.nil)
    · -- without, then the row
      go_simp
      refine (without_any a c es.length es _ _ _ _ (HR.out.below (B3.out)) rfl hle HS.out (HA.out.next (Below.refl _ _))).mono ?_
      rintro r w4 ⟨av4, cv4, w1, rfl, hL4, hb4, hb4'⟩
      have B1 := hide (below_next (B3.out) hb4)
      have B4 := hide (below_next B1.out hb4')
      have HL4 : Hid (LI w1 w4 (.slice av4 (offE es e.path).length cv4) (offE es e.path)) := hide hL4
      have BB4 := hide hb4'
      clear hL4 hb4 hb4'
      go_wp2_with fail
      refine hK.out _ _ (KC.out _ B4.out) (fun hHeld => ?_)
      clear hK K
      refine wpAnyH_ready (rs := [6]) (by kernel_rfl) (by simp) ?_
      refine AllReadyH.cons rfl (fun K hK => ?_) AllReadyH.nil
      have F4 := hide (Four.new w4 (.int .i64 e.size) (.slice x e.chunks.length cc) (.string (str e.path)) (.int .i64 e.kind) 88)
      have B5 := hide (below_next B4.out (below_alloc w4 (.cells #[.int .i64 e.size, .slice x e.chunks.length cc, .string (str e.path), .int .i64 e.kind] 88)))
      have BB5 := hide (below_next BB4.out (below_alloc w4 (.cells #[.int .i64 e.size, .slice x e.chunks.length cc, .string (str e.path), .int .i64 e.kind] 88)))
      go_simp
      refine hK.out _ _ (KC.out _ (B5.out)) (fun hHeld => ?_)
      clear hK K
      obtain ⟨rs, g1, g2, g3⟩ := HL4.out
      have G1 := hide g1
      have G3 := hide g3
      have G2 := hide (ownsRow_below g2 (below_alloc w4 (.cells #[.int .i64 e.size, .slice x e.chunks.length cc, .string (str e.path), .int .i64 e.kind] 88)))
      clear g1 g2 g3
      have hs4 := BB4.out.size
      refine wpAnyH_ready (rs := [7]) (by kernel_rfl) (by simp) ?_
      refine AllReadyH.cons (o := { dst := some 13, op := _, type := _, pos := _, after := _, guard := _ }) rfl (fun K hK => ?_) AllReadyH.nil
      refine step_app (by rfl) (.tmp 10) (.tmp 12) 116 (by rfl) w1.heap.size 88 i1 (.agg #[.int .i64 0, .slice none 0 0, .string ⟨#[]⟩, .int .i64 0]) 4 56 Tryz.underlying116 ki kz0 kz1 kz2 rfl (by decide) (.slice av4 (offE es e.path).length cv4) (offE es e.path).length (rowI rs) (by rfl) G2.out ⟨w4.heap.size, 0, none⟩ 1 1 (cellsI ⟨e, x, cc⟩) (by rfl) (by rfl) (news_item F4.out) (fun v hv => rowI_one [⟨e, x, cc⟩] v (by simpa [rowI] using hv)) ((offE es e.path).length + 1) rfl hm1 hm2 (by have := (BB5.out).size; omega) ?_
      intro av7 cv7 w7 hown7 hk7
      have O7 := hide hown7
      have B7 := hide ((B5.out).trans (hk7.below (B := W0.heap.size) (B5.out).size (fun q hq hS => by have h1 := (G2.out.lt q hS).1; have h2 := B1.out.size; omega)))
      have BB7 := hide (Kept.below_own (B := w1.heap.size) (BB5.out) (BB5.out).size G2.out hk7)
      clear hown7 hk7
      obtain ⟨g, rfl, hso⟩ := withItem_end w (offE es e.path) e x cc rs av7 cv7 w1 w7 G1.out G3.out (HX.out.below B1.out) BB7.out (by have h1 := B0.out.size; have h2 := B1.out.size; omega) (below_next B0.out B7.out) O7.out (by omega) HRI.out HNE.out
      have HSO := hide hso
      clear hso
      refine hK.out _ _ (KC.out _ B7.out) (fun hHeld => ?_)
      clear hK K
      simp only [Act.put, List.setIfInBounds_toArray, List.set_cons_zero, List.set_cons_succ]
      refine wpAnyH_take (i := 8) (oi := { dst := some 5, op := _, type := _, pos := _, after := _, guard := _ }) (v := .slice (some ⟨g, 0, none⟩) ((offE es e.path).length + 1) cv7) rfl (by kernel_rfl) (by kernel_rfl) (by kernel_rfl) (fun _ _ _ h => h) (Or.inl ⟨by rfl, ?_⟩) hHeld ?_
      · intro w hSw
        go_simp
      simp only [Act.put, List.setIfInBounds_toArray, List.set_cons_zero, List.set_cons_succ]
      refine wpAnyH_done (by kernel_rfl) ?_ _
      go_wp2_with fail
      refine HSO.out.mono ?_
      rintro r w8 ⟨rfl, hri, hb8⟩
      have RI := hide hri
      have B8 := hide hb8
      clear hri hb8
      go_wp2_with fail
      go_ret
      exact ⟨g, cv7, by rw [HPL.out]; rfl, RI.out, B8.out⟩
    · -- the row, then without
      have F4 := hide (Four.new w3 (.int .i64 e.size) (.slice x e.chunks.length cc) (.string (str e.path)) (.int .i64 e.kind) 88)
      have B5 := hide (below_next B3.out (below_alloc w3 (.cells #[.int .i64 e.size, .slice x e.chunks.length cc, .string (str e.path), .int .i64 e.kind] 88)))
      go_simp
      refine hK.out _ _ (KC.out _ (B5.out)) (fun hHeld => ?_)
      clear hK K
      refine wpAnyH_ready (rs := [4]) (by kernel_rfl) (by simp) ?_
      refine AllReadyH.cons rfl (fun K hK => ?_) AllReadyH.nil
      go_simp
      refine (without_any a c es.length es _ _ _ _ (HR.out.below (B5.out)) rfl hle HS.out (HA.out.next (below_alloc w3 (.cells #[.int .i64 e.size, .slice x e.chunks.length cc, .string (str e.path), .int .i64 e.kind] 88)))).mono ?_
      rintro r w4 ⟨av4, cv4, w1, rfl, hL4, hb4, hb4'⟩
      have B1 := hide (below_next (B5.out) hb4)
      have B4 := hide (below_next B1.out hb4')
      have HL4 : Hid (LI w1 w4 (.slice av4 (offE es e.path).length cv4) (offE es e.path)) := hide hL4
      have BB4 := hide hb4'
      have F5 := hide ((F4.out.below hb4).below hb4')
      clear hL4 hb4 hb4'
      go_wp2_with fail
      refine hK.out _ _ (KC.out _ B4.out) (fun hHeld => ?_)
      clear hK K
      obtain ⟨rs, g1, g2, g3⟩ := HL4.out
      have G1 := hide g1
      have G3 := hide g3
      have G2 := hide (g2)
      clear g1 g2 g3
      have hs4 := BB4.out.size
      refine wpAnyH_ready (rs := [7]) (by kernel_rfl) (by simp) ?_
      refine AllReadyH.cons (o := { dst := some 13, op := _, type := _, pos := _, after := _, guard := _ }) rfl (fun K hK => ?_) AllReadyH.nil
      refine step_app (by rfl) (.tmp 10) (.tmp 12) 116 (by rfl) w1.heap.size 88 i1 (.agg #[.int .i64 0, .slice none 0 0, .string ⟨#[]⟩, .int .i64 0]) 4 56 Tryz.underlying116 ki kz0 kz1 kz2 rfl (by decide) (.slice av4 (offE es e.path).length cv4) (offE es e.path).length (rowI rs) (by rfl) G2.out ⟨w3.heap.size, 0, none⟩ 1 1 (cellsI ⟨e, x, cc⟩) (by rfl) (by rfl) (news_item F5.out) (fun v hv => rowI_one [⟨e, x, cc⟩] v (by simpa [rowI] using hv)) ((offE es e.path).length + 1) rfl hm1 hm2 (by have := (BB4.out).size; omega) ?_
      intro av7 cv7 w7 hown7 hk7
      have O7 := hide hown7
      have B7 := hide ((B4.out).trans (hk7.below (B := W0.heap.size) (B4.out).size (fun q hq hS => by have h1 := (G2.out.lt q hS).1; have h2 := B1.out.size; omega)))
      have BB7 := hide (Kept.below_own (B := w1.heap.size) (BB4.out) (BB4.out).size G2.out hk7)
      clear hown7 hk7
      obtain ⟨g, rfl, hso⟩ := withItem_end w (offE es e.path) e x cc rs av7 cv7 w1 w7 G1.out G3.out (HX.out.below B1.out) BB7.out (by have h1 := B0.out.size; have h2 := B1.out.size; omega) (below_next B0.out B7.out) O7.out (by omega) HRI.out HNE.out
      have HSO := hide hso
      clear hso
      refine hK.out _ _ (KC.out _ B7.out) (fun hHeld => ?_)
      clear hK K
      simp only [Act.put, List.setIfInBounds_toArray, List.set_cons_zero, List.set_cons_succ]
      refine wpAnyH_take (i := 8) (oi := { dst := some 5, op := _, type := _, pos := _, after := _, guard := _ }) (v := .slice (some ⟨g, 0, none⟩) ((offE es e.path).length + 1) cv7) rfl (by kernel_rfl) (by kernel_rfl) (by kernel_rfl) (fun _ _ _ h => h) (Or.inl ⟨by rfl, ?_⟩) hHeld ?_
      · intro w hSw
        go_simp
      simp only [Act.put, List.setIfInBounds_toArray, List.set_cons_zero, List.set_cons_succ]
      refine wpAnyH_done (by kernel_rfl) ?_ _
      go_wp2_with fail
      refine HSO.out.mono ?_
      rintro r w8 ⟨rfl, hri, hb8⟩
      have RI := hide hri
      have B8 := hide hb8
      clear hri hb8
      go_wp2_with fail
      go_ret
      exact ⟨g, cv7, by rw [HPL.out]; rfl, RI.out, B8.out⟩
  · -- the row first
    have F4 := hide ((Four.new W0 (.int .i64 e.size) (.slice x e.chunks.length cc) (.string (str e.path)) (.int .i64 e.kind) 88).below (Below.refl _ _).drew)
    have B5 := hide ((below_alloc W0 (.cells #[.int .i64 e.size, .slice x e.chunks.length cc, .string (str e.path), .int .i64 e.kind] 88)).drew)
    go_simp
    refine hK.out _ _ (KC.out _ (B5.out)) (fun hHeld => ?_)
    clear hK K
    generalize (W0.alloc (.cells #[.int .i64 e.size, .slice x e.chunks.length cc, .string (str e.path), .int .i64 e.kind] 88)).drew = V at *
    refine wpAnyH_ready (rs := [3]) (by kernel_rfl) (by simp) ?_
    refine AllReadyH.cons rfl (fun K hK => ?_) AllReadyH.nil
    go_simp
    refine (isAt_any e.path _).mono ?_
    rintro r w3 ⟨rfl, hb3, hA⟩
    have HA := hide hA
    have B3 := hide (below_next (B5.out) hb3)
    have F3 := hide (F4.out.below hb3)
    clear hA hb3
    go_wp2_with fail
    refine hK.out _ _ (KC.out _ B3.out) (fun hHeld => ?_)
    clear hK K
    refine wpAnyH_ready (rs := [4]) (by kernel_rfl) (by simp) ?_
    refine AllReadyH.cons rfl (fun K hK => ?_) AllReadyH.nil
    go_simp
    refine (without_any a c es.length es _ _ _ _ (HR.out.below (B3.out)) rfl hle HS.out (HA.out.next (Below.refl _ _))).mono ?_
    rintro r w4 ⟨av4, cv4, w1, rfl, hL4, hb4, hb4'⟩
    have B1 := hide (below_next (B3.out) hb4)
    have B4 := hide (below_next B1.out hb4')
    have HL4 : Hid (LI w1 w4 (.slice av4 (offE es e.path).length cv4) (offE es e.path)) := hide hL4
    have BB4 := hide hb4'
    have F5 := hide ((F3.out.below hb4).below hb4')
    clear hL4 hb4 hb4'
    go_wp2_with fail
    refine hK.out _ _ (KC.out _ B4.out) (fun hHeld => ?_)
    clear hK K
    obtain ⟨rs, g1, g2, g3⟩ := HL4.out
    have G1 := hide g1
    have G3 := hide g3
    have G2 := hide (g2)
    clear g1 g2 g3
    have hs4 := BB4.out.size
    refine wpAnyH_ready (rs := [7]) (by kernel_rfl) (by simp) ?_
    refine AllReadyH.cons (o := { dst := some 13, op := _, type := _, pos := _, after := _, guard := _ }) rfl (fun K hK => ?_) AllReadyH.nil
    refine step_app (by rfl) (.tmp 10) (.tmp 12) 116 (by rfl) w1.heap.size 88 i1 (.agg #[.int .i64 0, .slice none 0 0, .string ⟨#[]⟩, .int .i64 0]) 4 56 Tryz.underlying116 ki kz0 kz1 kz2 rfl (by decide) (.slice av4 (offE es e.path).length cv4) (offE es e.path).length (rowI rs) (by rfl) G2.out ⟨W0.heap.size, 0, none⟩ 1 1 (cellsI ⟨e, x, cc⟩) (by rfl) (by rfl) (news_item F5.out) (fun v hv => rowI_one [⟨e, x, cc⟩] v (by simpa [rowI] using hv)) ((offE es e.path).length + 1) rfl hm1 hm2 (by have := (BB4.out).size; omega) ?_
    intro av7 cv7 w7 hown7 hk7
    have O7 := hide hown7
    have B7 := hide ((B4.out).trans (hk7.below (B := W0.heap.size) (B4.out).size (fun q hq hS => by have h1 := (G2.out.lt q hS).1; have h2 := B1.out.size; omega)))
    have BB7 := hide (Kept.below_own (B := w1.heap.size) (BB4.out) (BB4.out).size G2.out hk7)
    clear hown7 hk7
    obtain ⟨g, rfl, hso⟩ := withItem_end w (offE es e.path) e x cc rs av7 cv7 w1 w7 G1.out G3.out (HX.out.below B1.out) BB7.out (by have h1 := B0.out.size; have h2 := B1.out.size; omega) (below_next B0.out B7.out) O7.out (by omega) HRI.out HNE.out
    have HSO := hide hso
    clear hso
    refine hK.out _ _ (KC.out _ B7.out) (fun hHeld => ?_)
    clear hK K
    simp only [Act.put, List.setIfInBounds_toArray, List.set_cons_zero, List.set_cons_succ]
    refine wpAnyH_take (i := 8) (oi := { dst := some 5, op := _, type := _, pos := _, after := _, guard := _ }) (v := .slice (some ⟨g, 0, none⟩) ((offE es e.path).length + 1) cv7) rfl (by kernel_rfl) (by kernel_rfl) (by kernel_rfl) (fun _ _ _ h => h) (Or.inl ⟨by rfl, ?_⟩) hHeld ?_
    · intro w hSw
      go_simp
    simp only [Act.put, List.setIfInBounds_toArray, List.set_cons_zero, List.set_cons_succ]
    refine wpAnyH_done (by kernel_rfl) ?_ _
    go_wp2_with fail
    refine HSO.out.mono ?_
    rintro r w8 ⟨rfl, hri, hb8⟩
    have RI := hide hri
    have B8 := hide hb8
    clear hri hb8
    go_wp2_with fail
    go_ret
    exact ⟨g, cv7, by rw [HPL.out]; rfl, RI.out, B8.out⟩
end Go.Proofs.YtolnlfnndnpiiaaGreat

namespace Go.Proofs.YtolnlfnndnpiiaaGreat
open Go.RowKit Go.Maps
set_option linter.unusedVariables false
attribute [local go_sem ↓] Go.wp_at_zero Go.wp_at_succ

theorem restP_eq {es : List En} {p : Bs} (h : ∀ x ∈ es, faultP x.path = 0) (hp : faultP p = 0) : (es.filter fun e => !(atBelow e.path p)) = restE es p true := by
  unfold restE
  apply List.filter_congr
  intro x hx
  rw [atBelow, isBelow_eq (h x hx) hp, goesE, Bool.true_and, Bool.or_comm]
theorem place_off {es : List En} {p : Bs} (h : ∀ x ∈ es, faultP x.path = 0) (hp : faultP p = 0) : offE (es.filter fun e => !(isBelow e.path p)) p = restE es p true := by
  unfold offE restE
  rw [List.filter_filter]
  apply List.filter_congr
  intro x hx
  rw [isBelow_eq (h x hx) hp, goesE, Bool.true_and, Bool.not_or, Bool.and_comm]
theorem Fit.small {es : List En} (h : Fit es) : SmallE es := by
  intro e he
  have h1 := path_len2 (h.path he)
  have h3 := entFault_chunks (h.ent e he)
  omega

set_option maxRecDepth 100000 in
set_option maxHeartbeats 800000 in
theorem isUnderLit_any (p : Bs) (b : Nat) (e : En) (a : Option Addr) (c : Nat) (w : World) (h : w.cell? ⟨b, 0, none⟩ = some (.string (str p))) (hl : e.path.length ≤ 1048576) :
    Calls Tryz.prog 182 #[.agg #[.int .i64 e.size, .slice a e.chunks.length c, .string (str e.path), .int .i64 e.kind], .pointer (some ⟨b, 0, none⟩)] w fun r w' => r = .returned (.bool (atBelow e.path p)) ∧ Below w.heap.size w w' := by
  have HB0 := hide (below_alloc w (.cells #[.int .i64 e.size, .slice a e.chunks.length c, .string (str e.path), .int .i64 e.kind] 88))
  have hb := World.block_lt_of_cell? w ⟨b, 0, none⟩ h
  have hbw := (HB0.out.cell (p := ⟨b, 0, none⟩) hb).trans h
  have HC := hide (fun (u : World) => isAtOrBelow_any e.path p e.kind e.size a e.chunks.length c u hl)
  generalize atBelow e.path p = Z at *
  go_enter Tryz.func182, Tryz.ntmps182
  go_wp2_with fail
  refine (HC.out _).mono ?_
  rintro r w1 ⟨rfl, hb1⟩
  have B1 := hide (below_next HB0.out hb1)
  clear hb1
  go_wp2_with fail
  go_ret
  exact ⟨rfl, B1.out⟩
theorem isUnder_any (p : Bs) (w : World) :
    Calls Tryz.prog 132 #[.string (str p)] w fun r w' => r = .returned (.func (.func 182) #[] #[.pointer (some ⟨w.heap.size, 0, none⟩)]) ∧ Below w.heap.size w w' ∧ Asks w' 182 #[.pointer (some ⟨w.heap.size, 0, none⟩)] (fun e => atBelow e.path p) := by
  have hmf : ∀ (fn : Fn) (first cap : Array Value) (w : World), (Instr.makeFunc fn first cap).run Tryz.prog w = .ok (.func fn first cap) w := fun _ _ _ _ => rfl
  go_enter Tryz.func132, Tryz.ntmps132
  go_wp2_with fail
  go_ret
  refine ⟨rfl, below_alloc _ _, enters_of Tryz.func182 (by kernel_rfl) rfl, fun e a c w' he _ _ hb => ?_⟩
  exact isUnderLit_any p w.heap.size e a c w' ((hb.cell (p := ⟨w.heap.size, 0, none⟩) (by simp)).trans (by simp)) he

set_option maxRecDepth 100000 in
set_option maxHeartbeats 800000 in
theorem isBelowLit_any (p : Bs) (b : Nat) (e : En) (a : Option Addr) (c : Nat) (w : World) (h : w.cell? ⟨b, 0, none⟩ = some (.string (str p))) (hl : e.path.length ≤ 1048576) :
    Calls Tryz.prog 226 #[.agg #[.int .i64 e.size, .slice a e.chunks.length c, .string (str e.path), .int .i64 e.kind], .pointer (some ⟨b, 0, none⟩)] w fun r w' => r = .returned (.bool (isBelow e.path p)) ∧ Below w.heap.size w w' := by
  have HB0 := hide (below_alloc w (.cells #[.int .i64 e.size, .slice a e.chunks.length c, .string (str e.path), .int .i64 e.kind] 88))
  have hb := World.block_lt_of_cell? w ⟨b, 0, none⟩ h
  have hbw := (HB0.out.cell (p := ⟨b, 0, none⟩) hb).trans h
  have HC := hide (fun (u : World) => implIsBelow_any (str e.path) (str p) u (by rw [str_size]; omega))
  rw [str_data, str_data] at HC
  generalize isBelow e.path p = Z at *
  go_enter Tryz.func226, Tryz.ntmps226
  go_wp2_with fail
  refine (HC.out _).mono ?_
  rintro r w1 ⟨rfl, hb1⟩
  have B1 := hide (below_next HB0.out hb1)
  clear hb1
  go_wp2_with fail
  go_ret
  exact ⟨rfl, B1.out⟩
theorem isBelow_any (p : Bs) (w : World) :
    Calls Tryz.prog 184 #[.string (str p)] w fun r w' => r = .returned (.func (.func 226) #[] #[.pointer (some ⟨w.heap.size, 0, none⟩)]) ∧ Below w.heap.size w w' ∧ Asks w' 226 #[.pointer (some ⟨w.heap.size, 0, none⟩)] (fun e => isBelow e.path p) := by
  have hmf : ∀ (fn : Fn) (first cap : Array Value) (w : World), (Instr.makeFunc fn first cap).run Tryz.prog w = .ok (.func fn first cap) w := fun _ _ _ _ => rfl
  go_enter Tryz.func184, Tryz.ntmps184
  go_wp2_with fail
  go_ret
  refine ⟨rfl, below_alloc _ _, enters_of Tryz.func226 (by kernel_rfl) rfl, fun e a c w' he _ _ hb => ?_⟩
  exact isBelowLit_any p w.heap.size e a c w' ((hb.cell (p := ⟨w.heap.size, 0, none⟩) (by simp)).trans (by simp)) he

set_option maxRecDepth 100000 in
set_option maxHeartbeats 800000 in
theorem isDirAtLit_any (p : Bs) (b : Nat) (e : En) (a : Option Addr) (c : Nat) (w : World) (h : w.cell? ⟨b, 0, none⟩ = some (.string (str p))) :
    Calls Tryz.prog 185 #[.agg #[.int .i64 e.size, .slice a e.chunks.length c, .string (str e.path), .int .i64 e.kind], .pointer (some ⟨b, 0, none⟩)] w fun r w' => r = .returned (.bool (decide (e.path = p) && dirK e.kind)) ∧ Below w.heap.size w w' := by
  have HB0 := hide (below_alloc w (.cells #[.int .i64 e.size, .slice a e.chunks.length c, .string (str e.path), .int .i64 e.kind] 88))
  have hb := World.block_lt_of_cell? w ⟨b, 0, none⟩ h
  have hbw := (HB0.out.cell (p := ⟨b, 0, none⟩) hb).trans h
  have HC := hide (fun (u : World) => isDir_any (str e.path) e.kind e.size a e.chunks.length c u)
  generalize dirK e.kind = Z at *
  by_cases hp : e.path = p
  · have hs1 := str_yes hp
    rw [decide_eq_true hp, Bool.true_and]
    clear hp
    go_enter Tryz.func185, Tryz.ntmps185
    go_wp2_with fail
    refine (HC.out _).mono ?_
    rintro r w1 ⟨rfl, hb1⟩
    have B1 := hide (below_next HB0.out hb1)
    clear hb1
    go_wp2_with fail
    cases Z
    · go_ret
      exact ⟨rfl, B1.out⟩
    · go_ret
      exact ⟨rfl, B1.out⟩
  · have hs1 := str_no hp
    rw [decide_eq_false hp, Bool.false_and]
    clear hp
    go_enter Tryz.func185, Tryz.ntmps185
    go_wp2_with fail
    go_ret
    exact ⟨rfl, HB0.out⟩
theorem isDirAt_any (p : Bs) (w : World) :
    Calls Tryz.prog 134 #[.string (str p)] w fun r w' => r = .returned (.func (.func 185) #[] #[.pointer (some ⟨w.heap.size, 0, none⟩)]) ∧ Below w.heap.size w w' ∧ Asks w' 185 #[.pointer (some ⟨w.heap.size, 0, none⟩)] (fun e => decide (e.path = p) && dirK e.kind) := by
  have hmf : ∀ (fn : Fn) (first cap : Array Value) (w : World), (Instr.makeFunc fn first cap).run Tryz.prog w = .ok (.func fn first cap) w := fun _ _ _ _ => rfl
  go_enter Tryz.func134, Tryz.ntmps134
  go_wp2_with fail
  go_ret
  refine ⟨rfl, below_alloc _ _, enters_of Tryz.func185 (by kernel_rfl) rfl, fun e a c w' he _ _ hb => ?_⟩
  exact isDirAtLit_any p w.heap.size e a c w' ((hb.cell (p := ⟨w.heap.size, 0, none⟩) (by simp)).trans (by simp))

set_option maxRecDepth 100000 in
set_option maxHeartbeats 3200000 in
theorem inPlace_any (a : Option Addr) (c n : Nat) (es : List En) (e : En) (x : Option Addr) (cc : Nat) (w : World) (h : RdI w a es) (hn : n = es.length) (hl : es.length ≤ 1048575) (hF : Fit es) (he : faultP e.path = 0) (hx : Reads .i64 w x e.chunks) :
    Calls Tryz.prog 133 #[.slice a n c, .agg #[.int .i64 e.size, .slice x e.chunks.length cc, .string (str e.path), .int .i64 e.kind]] w fun r w' => ∃ g cv, r = .returned (.slice (some ⟨g, 0, none⟩) (putAt (restE es e.path true) e).length cv) ∧ RdI w' (some ⟨g, 0, none⟩) (putAt (restE es e.path true) e) ∧ Below w.heap.size w w' := by
  subst hn
  have B0 := hide (below_alloc w (.cells #[.int .i64 e.size, .slice x e.chunks.length cc, .string (str e.path), .int .i64 e.kind] 88))
  have F0 := hide (Four.new w (.int .i64 e.size) (.slice x e.chunks.length cc) (.string (str e.path)) (.int .i64 e.kind) 88)
  have HR := hide (h.below B0.out)
  have HX := hide (hx.below B0.out)
  have HS := hide hF.small
  have HRi := hide (show Rise (es.filter fun e' => !(isBelow e'.path e.path)) from hF.rise.sublist List.filter_sublist)
  have HSf := hide (show SmallE (es.filter fun e' => !(isBelow e'.path e.path)) from fun y hy => hF.small y (List.mem_filter.1 hy).1)
  have HOF := hide (place_off (p := e.path) (fun y hy => hF.path hy) he)
  have hfl := List.length_filter_le (fun e' : En => !(isBelow e'.path e.path)) es
  clear h hx hF
  go_enter Tryz.func133, Tryz.ntmps133
  go_wp2_with fail
  generalize w.alloc (.cells #[.int .i64 e.size, .slice x e.chunks.length cc, .string (str e.path), .int .i64 e.kind] 88) = W0 at *
  have KC : Hid (∀ w' : World, Below W0.heap.size W0 w' → w'.cell? ⟨w.heap.size, 0, none⟩ = some (.int .i64 e.size) ∧ w'.cell? ⟨w.heap.size, 1, none⟩ = some (.slice x e.chunks.length cc) ∧ w'.cell? ⟨w.heap.size, 2, none⟩ = some (.string (str e.path)) ∧ w'.cell? ⟨w.heap.size, 3, none⟩ = some (.int .i64 e.kind)) := hide (fun w' hb => F0.out.below hb)
  obtain ⟨p0, p1, p2, p3⟩ := F0.out
  go_region_held3 (fun w' => w'.cell? ⟨w.heap.size, 0, none⟩ = some (.int .i64 e.size) ∧ w'.cell? ⟨w.heap.size, 1, none⟩ = some (.slice x e.chunks.length cc) ∧ w'.cell? ⟨w.heap.size, 2, none⟩ = some (.string (str e.path)) ∧ w'.cell? ⟨w.heap.size, 3, none⟩ = some (.int .i64 e.kind)) (first | exact KC.out _ BB3.out | exact KC.out _ BB2.out | exact KC.out _ BB1.out | go_keep)
    ((first
      | (go_at_call 184; refine (isBelow_any e.path _).mono ?_; rintro r w1 ⟨rfl, hb1, hA⟩; have HA := hide hA; have BB1 := hide ((Below.refl W0.heap.size W0).drew.trans hb1); clear hb1 hA)
      | (go_at_call 131; refine (without_any a c es.length es _ _ _ _ (HR.out.below BB1.out) rfl (by omega) HS.out (HA.out.next (Below.refl _ _))).mono ?_; rintro r w2 ⟨av2, cv2, v2, rfl, hL2, hb2, hb2'⟩; have BB2 := hide (below_next (below_next BB1.out hb2) hb2'); have RI2 := hide (hL2.rd hb2'); clear hL2 hb2 hb2')
      | (go_at_call 183; refine (withItem_any av2 cv2 _ _ e x cc _ RI2.out rfl (by omega) HSf.out HRi.out (HX.out.below BB2.out)).mono ?_; rintro r w3 ⟨g3, cv3, rfl, hri3, hb3⟩; have BB3 := hide (below_next BB2.out hb3); have RI3 := hide hri3; clear hri3 hb3)))
  rw [HOF.out] at RI3 ⊢
  go_wp2_with fail
  go_ret
  exact ⟨g3, cv3, rfl, RI3.out, below_next B0.out BB3.out⟩

def saidT (k : Int) : TypeId := if k = 1 then 155 else if k = 2 then 153 else if k = 3 then 148 else 151
def saidV (e : En) (x : Option Addr) (cc : Nat) : Value := .iface (saidT e.kind) (.agg #[.int .i64 e.size, .slice x e.chunks.length cc, .string (str e.path), .int .i64 e.kind])
set_option maxRecDepth 100000 in
set_option maxHeartbeats 800000 in
theorem saidBy_any (e : En) (x : Option Addr) (cc : Nat) (w : World) (hk : e.kind = 1 ∨ e.kind = 2 ∨ e.kind = 3 ∨ e.kind = 4) :
    Calls Tryz.prog 90 #[.agg #[.int .i64 e.size, .slice x e.chunks.length cc, .string (str e.path), .int .i64 e.kind]] w fun r w' => r = .returned (saidV e x cc) ∧ Below w.heap.size w w' := by
  have HE := hide (show saidV e x cc = .iface (saidT e.kind) (.agg #[.int .i64 e.size, .slice x e.chunks.length cc, .string (str e.path), .int .i64 e.kind]) from rfl)
  generalize saidV e x cc = V at *
  rcases hk with hk | hk | hk | hk
  all_goals
    rw [hk] at HE ⊢
    go_enter Tryz.func90, Tryz.ntmps90
    go_wp2_with fail
    go_ret
    exact ⟨by rw [HE.out]; rfl, below_alloc _ _⟩
end Go.Proofs.YtolnlfnndnpiiaaGreat

namespace Go.Proofs.YtolnlfnndnpiiaaGreat
open Go.RowKit Go.Maps
set_option linter.unusedVariables false
attribute [local go_sem ↓] Go.wp_at_zero Go.wp_at_succ

theorem any_hasDir (es : List En) (p : Bs) : (es.any fun e => decide (e.path = p) && dirK e.kind) = hasDir es p := rfl
theorem asFileDir (v : Value) (W : World) : (Instr.typeAssert (.iface 155 v) 120 153 true).run Tryz.prog W = .ok (.tuple #[.agg #[.int .i64 0, .slice none 0 0, .string ⟨#[]⟩, .int .i64 0], .bool false]) W := by kernel_rfl
theorem asFileWhite (v : Value) (W : World) : (Instr.typeAssert (.iface 155 v) 120 148 true).run Tryz.prog W = .ok (.tuple #[.agg #[.int .i64 0, .slice none 0 0, .string ⟨#[]⟩, .int .i64 0], .bool false]) W := by kernel_rfl
theorem asFileOpaque (v : Value) (W : World) : (Instr.typeAssert (.iface 155 v) 120 151 true).run Tryz.prog W = .ok (.tuple #[.agg #[.int .i64 0, .slice none 0 0, .string ⟨#[]⟩, .int .i64 0], .bool false]) W := by kernel_rfl
theorem asDirDir (v : Value) (W : World) : (Instr.typeAssert (.iface 153 v) 120 153 true).run Tryz.prog W = .ok (.tuple #[v, .bool true]) W := by kernel_rfl
theorem asDirWhite (v : Value) (W : World) : (Instr.typeAssert (.iface 153 v) 120 148 true).run Tryz.prog W = .ok (.tuple #[.agg #[.int .i64 0, .slice none 0 0, .string ⟨#[]⟩, .int .i64 0], .bool false]) W := by kernel_rfl
theorem asDirOpaque (v : Value) (W : World) : (Instr.typeAssert (.iface 153 v) 120 151 true).run Tryz.prog W = .ok (.tuple #[.agg #[.int .i64 0, .slice none 0 0, .string ⟨#[]⟩, .int .i64 0], .bool false]) W := by kernel_rfl
theorem asWhiteDir (v : Value) (W : World) : (Instr.typeAssert (.iface 148 v) 120 153 true).run Tryz.prog W = .ok (.tuple #[.agg #[.int .i64 0, .slice none 0 0, .string ⟨#[]⟩, .int .i64 0], .bool false]) W := by kernel_rfl
theorem asWhiteWhite (v : Value) (W : World) : (Instr.typeAssert (.iface 148 v) 120 148 true).run Tryz.prog W = .ok (.tuple #[v, .bool true]) W := by kernel_rfl
theorem asWhiteOpaque (v : Value) (W : World) : (Instr.typeAssert (.iface 148 v) 120 151 true).run Tryz.prog W = .ok (.tuple #[.agg #[.int .i64 0, .slice none 0 0, .string ⟨#[]⟩, .int .i64 0], .bool false]) W := by kernel_rfl
theorem asOpaqueDir (v : Value) (W : World) : (Instr.typeAssert (.iface 151 v) 120 153 true).run Tryz.prog W = .ok (.tuple #[.agg #[.int .i64 0, .slice none 0 0, .string ⟨#[]⟩, .int .i64 0], .bool false]) W := by kernel_rfl
theorem asOpaqueWhite (v : Value) (W : World) : (Instr.typeAssert (.iface 151 v) 120 148 true).run Tryz.prog W = .ok (.tuple #[.agg #[.int .i64 0, .slice none 0 0, .string ⟨#[]⟩, .int .i64 0], .bool false]) W := by kernel_rfl
theorem asOpaqueOpaque (v : Value) (W : World) : (Instr.typeAssert (.iface 151 v) 120 151 true).run Tryz.prog W = .ok (.tuple #[v, .bool true]) W := by kernel_rfl
theorem entry_any (p : ByteArray) (k z : Int) (a : Option Addr) (n c : Nat) (w : World) :
    Calls Tryz.prog 297 #[.agg #[.int .i64 z, .slice a n c, .string p, .int .i64 k]] w fun r w' => r = .returned (.agg #[.int .i64 z, .slice a n c, .string p, .int .i64 k]) ∧ Below w.heap.size w w' := by
  obtain ⟨⟨q0, q1, q2, q3⟩, tf⟩ := Box4.new (w.alloc (.cells #[.int .i64 z, .slice a n c, .string p, .int .i64 k] 88)) (.int .i64 0) (.slice none 0 0) (.string ⟨#[]⟩) (.int .i64 0) 88
  go_enter Tryz.func297, Tryz.ntmps297
  go_wp2_with fail
  exact bodyPost_ret (v := .agg #[.int .i64 z, .slice a n c, .string p, .int .i64 k]) (by simp [results, Tryz.results297, go_sem]) rfl ⟨rfl, below_next (below_alloc _ _) (below_alloc _ _)⟩
set_option maxRecDepth 100000 in
set_option maxHeartbeats 3200000 in
theorem laidOver_any (a : Option Addr) (c n : Nat) (es : List En) (e : En) (x : Option Addr) (cc : Nat) (w : World) (h : RdI w a es) (hn : n = es.length) (hl : es.length ≤ 1048575) (hF : FitT es) (he : entFault e = 0) (hx : Reads .i64 w x e.chunks) :
    Calls Tryz.prog 89 #[.slice a n c, saidV e x cc] w fun r w' => ∃ av cv, r = .returned (.slice av (overE es e).length cv) ∧ RdI w' av (overE es e) ∧ Below w.heap.size w w' := by
  subst hn
  have hp := entFault_zero he
  have HR := hide h
  have HX := hide hx
  have HF := hide hF
  have HS := hide hF.fit.small
  have HE := hide (show saidV e x cc = .iface (saidT e.kind) (.agg #[.int .i64 e.size, .slice x e.chunks.length cc, .string (str e.path), .int .i64 e.kind]) from rfl)
  rw [HE.out]
  clear h hx hF HE
  rcases ent_kinds he with hk | hk | hk | hk
  · -- a file
    have HO := hide (show overE es e = putAt (restE es e.path true) e from by simp [overE, hk, asT])
    have hst : saidT e.kind = 155 := by rw [hk]; rfl
    have hw := asFileWhite
    have ho := asFileOpaque
    have hd := asFileDir
    have hsz : ∀ (h : 88 < Tryz.prog.types.size), (Tryz.prog.types[88]'h).size = 4 := fun _ => by kernel_rfl
    have HP := hide (fun (u : World) (hb : Below w.heap.size w u) => inPlace_any a c es.length es e x cc u (HR.out.below hb) rfl hl HF.out.fit hp (HX.out.below hb))
    rw [hst, HO.out]
    rw [hk] at HP ⊢
    generalize putAt (restE es e.path true) e = OL at *
    clear hk hst HO
    go_enter Tryz.func89, Tryz.ntmps89
    go_wp2_with fail
    refine (entry_any (str e.path) 1 e.size x e.chunks.length cc _).mono ?_
    rintro r w1 ⟨rfl, hb1⟩
    have B1 := hide hb1
    clear hb1
    go_wp2_with fail
    refine (HP.out _ B1.out).mono ?_
    rintro r w2 ⟨g, cv, rfl, hri, hb2⟩
    have RI := hide hri
    have B2 := hide (below_next B1.out hb2)
    clear hri hb2
    go_wp2_with fail
    go_ret
    exact ⟨_, cv, rfl, RI.out, B2.out⟩
  · -- a directory
    have hst : saidT e.kind = 153 := by rw [hk]; rfl
    have hw := asDirWhite
    have ho := asDirOpaque
    have hd := asDirDir
    have HP := hide (fun (u : World) (hb : Below w.heap.size w u) => inPlace_any a c es.length es e x cc u (HR.out.below hb) rfl hl HF.out.fit hp (HX.out.below hb))
    have HO := hide (show overE es e = if hasDir es e.path = true then es else putAt (restE es e.path true) e from by simp [overE, hk, asT])
    have A1 := hide (below_alloc w (.cells #[.int .i64 e.size, .slice x e.chunks.length cc, .string (str e.path), .int .i64 2] 153))
    have F1 := hide (Four.new w (.int .i64 e.size) (.slice x e.chunks.length cc) (.string (str e.path)) (.int .i64 2) 153)
    cases hdir : hasDir es e.path
    · rw [hdir, if_neg Bool.false_ne_true] at HO
      rw [hst, HO.out]
      rw [hk] at HP ⊢
      generalize putAt (restE es e.path true) e = OL at *
      clear hk hst HO
      go_enter Tryz.func89, Tryz.ntmps89
      go_wp2_with fail
      generalize w.alloc (.cells #[.int .i64 e.size, .slice x e.chunks.length cc, .string (str e.path), .int .i64 2] 153) = W1 at *
      refine (isDirAt_any e.path _).mono ?_
      rintro r w2 ⟨rfl, hb2, hA⟩
      have HA := hide hA
      have B2 := hide (below_next A1.out hb2)
      have F2 := hide (F1.out.below hb2)
      clear hA hb2
      go_wp2_with fail
      refine (hasI_any a c es.length es _ _ _ _ (HR.out.below B2.out) rfl (by omega) HS.out HA.out).mono ?_
      rw [any_hasDir, hdir]
      rintro r w3 ⟨rfl, hb3⟩
      have B3 := hide (below_next B2.out hb3)
      obtain ⟨q0, q1, q2, q3⟩ := F2.out.below hb3
      clear hb3
      go_wp2_with fail
      refine (HP.out _ B3.out).mono ?_
      rintro r w4 ⟨g, cv, rfl, hri, hb4⟩
      have RI := hide hri
      have B4 := hide (below_next B3.out hb4)
      clear hri hb4
      go_wp2_with fail
      go_ret
      exact ⟨_, cv, rfl, RI.out, B4.out⟩
    · rw [hdir, if_pos rfl] at HO
      rw [hst, HO.out]
      rw [hk]
      clear hk hst HO
      go_enter Tryz.func89, Tryz.ntmps89
      go_wp2_with fail
      generalize w.alloc (.cells #[.int .i64 e.size, .slice x e.chunks.length cc, .string (str e.path), .int .i64 2] 153) = W1 at *
      refine (isDirAt_any e.path _).mono ?_
      rintro r w2 ⟨rfl, hb2, hA⟩
      have HA := hide hA
      have B2 := hide (below_next A1.out hb2)
      clear hA hb2
      go_wp2_with fail
      refine (hasI_any a c es.length es _ _ _ _ (HR.out.below B2.out) rfl (by omega) HS.out HA.out).mono ?_
      rw [any_hasDir, hdir]
      rintro r w3 ⟨rfl, hb3⟩
      have B3 := hide (below_next B2.out hb3)
      clear hb3
      go_wp2_with fail
      go_ret
      exact ⟨a, c, rfl, HR.out.below B3.out, B3.out⟩
  · -- a white
    have hst : saidT e.kind = 148 := by rw [hk]; rfl
    have hw := asWhiteWhite
    have ho := asWhiteOpaque
    have hd := asWhiteDir
    have HO := hide (show overE es e = es.filter fun y => !(atBelow y.path e.path) from by rw [restP_eq (fun y hy => HF.out.fit.path hy) hp]; simp [overE, hk])
    rw [hst, HO.out]
    rw [hk]
    clear hk hst HO
    have A1 := hide (below_alloc w (.cells #[.int .i64 e.size, .slice x e.chunks.length cc, .string (str e.path), .int .i64 3] 148))
    go_enter Tryz.func89, Tryz.ntmps89
    go_wp2_with fail
    generalize w.alloc (.cells #[.int .i64 e.size, .slice x e.chunks.length cc, .string (str e.path), .int .i64 3] 148) = W1 at *
    refine (isUnder_any e.path _).mono ?_
    rintro r w2 ⟨rfl, hb2, hA⟩
    have HA := hide hA
    have B2 := hide (below_next A1.out hb2)
    clear hA hb2
    go_wp2_with fail
    refine (without_any a c es.length es _ _ _ _ (HR.out.below B2.out) rfl (by omega) HS.out HA.out).mono ?_
    rintro r w3 ⟨av3, cv3, v3, rfl, hL3, hb3, hb3'⟩
    have B3 := hide (below_next (below_next B2.out hb3) hb3')
    have RI3 := hide (hL3.rd hb3')
    clear hL3 hb3 hb3'
    go_wp2_with fail
    go_ret
    exact ⟨av3, cv3, rfl, RI3.out, B3.out⟩
  · -- kind 4
    have hst : saidT e.kind = 151 := by rw [hk]; rfl
    have hw := asOpaqueWhite
    have ho := asOpaqueOpaque
    have hd := asOpaqueDir
    have HO := hide (show overE es e = putAt (restE es e.path true) (kindE e 2) from by simp [overE, hk, asT])
    have HP := hide (fun (u : World) (hb : Below w.heap.size w u) => inPlace_any a c es.length es (kindE e 2) x cc u (HR.out.below hb) rfl hl HF.out.fit hp (HX.out.below hb))
    have e0 : (kindE e 2).path = e.path := rfl
    have e1 : (kindE e 2).size = e.size := rfl
    have e2 : (kindE e 2).chunks = e.chunks := rfl
    have e3 : (kindE e 2).kind = 2 := rfl
    rw [e0, e1, e2, e3] at HP
    rw [hst, HO.out]
    rw [hk]
    generalize putAt (restE es e.path true) (kindE e 2) = OL at *
    clear hk hst HO e0 e1 e2 e3
    have A1 := hide (below_alloc w (.cells #[.int .i64 e.size, .slice x e.chunks.length cc, .string (str e.path), .int .i64 2] 151))
    go_enter Tryz.func89, Tryz.ntmps89
    go_wp2_with fail
    refine (HP.out _ A1.out).mono ?_
    rintro r w2 ⟨g, cv, rfl, hri, hb2⟩
    have RI := hide hri
    have B2 := hide (below_next A1.out hb2)
    clear hri hb2
    go_wp2_with fail
    go_ret
    exact ⟨_, cv, rfl, RI.out, B2.out⟩
end Go.Proofs.YtolnlfnndnpiiaaGreat

namespace Go.Proofs.YtolnlfnndnpiiaaGreat
open Go.RowKit Go.Maps
set_option linter.unusedVariables false
attribute [local go_sem ↓] Go.wp_at_zero Go.wp_at_succ

def mrgCode (t L : List En) : Int := if treFaultP t = 0 then (if layFaultP L = 0 then (if 40 < (mergeE t L).length then 2 else 0) else layFaultP L) else treFaultP t
def mrgList (t L : List En) : List En := if mrgCode t L = 0 then mergeE t L else []
theorem mrg_tree {t L : List En} (h : treFaultP t ≠ 0) : mrgCode t L = treFaultP t ∧ mrgList t L = [] := by
  have h1 : mrgCode t L = treFaultP t := by rw [mrgCode, if_neg h]
  exact ⟨h1, by rw [mrgList, if_neg (by rw [h1]; exact h)]⟩
theorem mrg_layer {t L : List En} (h : treFaultP t = 0) (h2 : layFaultP L ≠ 0) : mrgCode t L = layFaultP L ∧ mrgList t L = [] := by
  have h1 : mrgCode t L = layFaultP L := by rw [mrgCode, if_pos h, if_neg h2]
  exact ⟨h1, by rw [mrgList, if_neg (by rw [h1]; exact h2)]⟩
theorem mrg_many {t L : List En} (h : treFaultP t = 0) (h2 : layFaultP L = 0) (h3 : 40 < (mergeE t L).length) : mrgCode t L = 2 ∧ mrgList t L = [] := by
  have h1 : mrgCode t L = 2 := by rw [mrgCode, if_pos h, if_pos h2, if_pos h3]
  exact ⟨h1, by rw [mrgList, if_neg (by rw [h1]; decide)]⟩
theorem mrg_ok {t L : List En} (h : treFaultP t = 0) (h2 : layFaultP L = 0) (h3 : ¬ 40 < (mergeE t L).length) : mrgCode t L = 0 ∧ mrgList t L = mergeE t L := by
  have h1 : mrgCode t L = 0 := by rw [mrgCode, if_pos h, if_pos h2, if_neg h3]
  exact ⟨h1, by rw [mrgList, if_pos h1]⟩
theorem merge_next {t L : List En} {k : Nat} {e : En} (he : L[k]? = some e) : mergeE t (L.take (k + 1)) = overE (mergeE t (L.take k)) e := by
  rw [take_next he]; simp [mergeE, List.foldl_append]

set_option maxRecDepth 100000 in
set_option maxHeartbeats 3200000 in
theorem implMergeLayer_any (a : Option Addr) (c n : Nat) (t : List En) (b : Option Addr) (d m : Nat) (L : List En) (w : World) (h : RdE w a t) (hn : n = t.length) (hl : t.length ≤ 1000000) (hs : SmallE t) (h2 : RdE w b L) (hm : m = L.length) (hl2 : L.length ≤ 1000000) (hs2 : SmallE L) :
    Calls Tryz.prog 50 #[.slice a n c, .slice b m d] w (ResT (mrgCode t L) 0 (mrgList t L) w) := by
  subst hn hm
  have X0 := hide (Box3.new w (.int .i64 0) (.int .i64 0) (.slice none 0 0) 40)
  have B0 := hide (below_alloc w (.cells #[.int .i64 0, .int .i64 0, .slice none 0 0] 40))
  have HR := hide h
  have HS := hide hs
  have HR2 := hide h2
  have HS2 := hide hs2
  clear h hs h2 hs2
  go_enter Tryz.func50, Tryz.ntmps50
  go_wp2_with fail
  refine (implTreeFault_any a c t.length t _ (HR.out.below B0.out) rfl (by omega) HS.out).mono ?_
  rintro r w1 ⟨rfl, hb1⟩
  have B1 := hide (below_next B0.out hb1)
  have X1 := hide (X0.out.below hb1)
  have hb0 : w.heap.size < w1.heap.size := X1.out.lt
  clear hb1 X0 B0
  by_cases hz : treFaultP t = 0
  · have HZ := hide hz
    rw [hz]
    clear hz
    go_wp2_with fail
    refine (implLayerFault_any b d L.length L _ (HR2.out.below B1.out) rfl (by omega) HS2.out).mono ?_
    rintro r w2 ⟨rfl, hb2⟩
    have B2 := hide (below_next B1.out hb2)
    have X2 := hide (X1.out.below hb2)
    have hs12 := hb2.size
    clear hb2 X1
    by_cases hz2 : layFaultP L = 0
    · have HZ2 := hide hz2
      have HRT := hide (rightT_fit.1 (rightT_P.1 HZ.out))
      have HRL := hide (right_fit.1 (right_P.1 hz2))
      have hl40 := HRT.out.2
      have hl12 := HRL.out.2
      rw [hz2]
      clear hz2
      go_wp2_with fail
      refine (treeOf_any a c t.length t _ (HR.out.below B2.out) rfl (by omega)).mono ?_
      rintro r w3 ⟨av, cv, rfl, hL, hb3⟩
      have RI := hide (hL.rd hb3)
      have B3 := hide (below_next B2.out hb3)
      have BX3 := hide hb3
      clear hL hb3
      go_wp2_with fail
      go_loopw [7, 26] (fun v i wr => ∃ (k : Nat) (va : Option Addr) (vc : Nat), k ≤ L.length ∧ i = .int .i64 k ∧ v = .slice va (mergeE t (L.take k)).length vc ∧ Hid (RdI wr va (mergeE t (L.take k))) ∧ Hid (Below w2.heap.size w2 wr)) (fun _ i _ => L.length - (intOf i).toNat)
      case atStart => exact ⟨0, av, cv, Nat.zero_le _, rfl, rfl, hide RI.out, hide BX3.out⟩
      case round =>
        obtain ⟨k, va, vc, hk, rfl, rfl, HI, HW⟩ := hrel
        have hml := merge_len (L.take k) t
        rw [List.length_take] at hml
        by_cases hlt : k < L.length
        · obtain ⟨bb, off, e, x, cc, rfl, hbb, he, c0, c1, c2, c3, hr⟩ := (HR2.out.below (below_next B2.out HW.out)).at hlt
          have hee := HRL.out.1.ent e (List.mem_of_getElem? he)
          have HX := hide he
          have HRc := hide hr
          have HFk := hide (merge_view HRT.out.1 HRL.out.1 k hk).1
          have HN := hide (merge_next (t := t) he)
          clear he hr
          have BA := hide (below_alloc wr (.cells #[.string (str e.path), .int .i64 e.kind, .int .i64 e.size, .slice x e.chunks.length cc] 50))
          generalize mergeE t (L.take k) = M at *
          go_wp2_with fail
          refine (itemOf_any (str e.path) e.kind e.size x e.chunks.length cc _).mono ?_
          rintro r w4 ⟨rfl, hb4⟩
          have BB4 := hide (below_next BA.out hb4)
          clear hb4 c0 c1 c2 c3
          go_wp2_with fail
          refine (saidBy_any e x cc _ (ent_kinds hee)).mono ?_
          rintro r w5 ⟨rfl, hb5⟩
          have BB5 := hide (below_next BB4.out hb5)
          clear hb5
          go_wp2_with fail
          refine (laidOver_any va vc M.length M e x cc _ (HI.out.below BB5.out) rfl (by omega) HFk.out hee (HRc.out.below BB5.out)).mono ?_
          rintro r w6 ⟨av6, cv6, rfl, hri6, hb6⟩
          have BB6 := hide (below_next BB5.out hb6)
          have RI6 := hide hri6
          clear hri6 hb6
          rw [← HN.out] at RI6 ⊢
          go_wp2_with fail
          go_roundw
          case rel => exact ⟨k + 1, av6, cv6, by omega, by go_num, rfl, RI6, hide (below_next HW.out BB6.out)⟩
          case measure => simp [intOf]; omega
        · have HE := hide (show L.take k = L from List.take_of_length_le (by omega))
          rw [HE.out] at HI hml ⊢
          clear HE
          have HFl := hide (merge_fit HRT.out.1 HRL.out.1)
          have HSm := hide HFl.out.fit.small
          by_cases h40 : 40 < (mergeE t L).length
          · have HCC := hide (mrg_many HZ.out HZ2.out h40)
            have hg40 : (40 : Int) < ((mergeE t L).length : Int) := by omega
            obtain ⟨⟨t0, t1, t2⟩, t3, t4, t5⟩ := X2.out.below HW.out
            go_wp2_with fail
            exact bodyPost_ret (v := .agg #[.int .i64 2, .int .i64 0, .slice none 0 0]) (by simp [results, Tryz.results50, go_sem, t0, t1, t2]) rfl (by rw [HCC.out.1, HCC.out.2]; exact ResT.bad (Nat.le_refl _) (below_next B2.out HW.out))
          · have HCC := hide (mrg_ok HZ.out HZ2.out h40)
            have hg40 : ¬ (40 : Int) < ((mergeE t L).length : Int) := by omega
            generalize mergeE t L = M at *
            go_wp2_with fail
            refine (entriesOf_any _ _ _ M _ HI.out rfl (by omega) HSm.out).mono ?_
            rintro r w6 ⟨av6, cv6, rfl, hG6, hb6⟩
            have BB6 := hide (below_next HW.out hb6)
            obtain ⟨⟨t0, t1, t2⟩, t3, t4, t5⟩ := X2.out.below BB6.out
            have G6 := hide hG6
            have hs5 := HW.out.size
            have B6 := hide (below_next B2.out BB6.out)
            clear hG6 hb6
            go_wp2_with fail
            exact bodyPost_ret (v := .agg #[.int .i64 0, .int .i64 0, .slice av6 M.length cv6]) (by simp [results, Tryz.results50, go_sem, t0, t1, t2]) rfl (by rw [HCC.out.1, HCC.out.2]; exact ResT.of (by omega) (Nat.le_refl _) rfl G6.out B6.out)
    · have HCC := hide (mrg_layer HZ.out hz2)
      generalize layFaultP L = F at *
      have hz3 : (F != 0) = true := by simp; exact hz2
      clear hz2
      obtain ⟨⟨t0, t1, t2⟩, t3, t4, t5⟩ := X2.out
      go_wp2_with fail
      exact bodyPost_ret (v := .agg #[.int .i64 F, .int .i64 0, .slice none 0 0]) (by simp [results, Tryz.results50, go_sem, t0, t1, t2]) rfl (by rw [HCC.out.1, HCC.out.2]; exact ResT.bad (Nat.le_refl _) B2.out)
  · have HCC := hide (mrg_tree (L := L) hz)
    generalize treFaultP t = F at *
    have hz3 : (F != 0) = true := by simp; exact hz
    clear hz
    obtain ⟨⟨t0, t1, t2⟩, t3, t4, t5⟩ := X1.out
    go_wp2_with fail
    exact bodyPost_ret (v := .agg #[.int .i64 F, .int .i64 0, .slice none 0 0]) (by simp [results, Tryz.results50, go_sem, t0, t1, t2]) rfl (by rw [HCC.out.1, HCC.out.2]; exact ResT.bad (Nat.le_refl _) B1.out)
end Go.Proofs.YtolnlfnndnpiiaaGreat

