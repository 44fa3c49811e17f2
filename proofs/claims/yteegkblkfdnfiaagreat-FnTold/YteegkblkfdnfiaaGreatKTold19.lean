/-
  Texts put together: SnpXb.
-/
import Derived.Test.YteegkblkfdnfiaaGreatKTold18
namespace Go.Proofs.YteegkblkfdnfiaaGreat
open Go.RowKit Go.Maps
set_option linter.unusedVariables false
attribute [local go_sem ↓] Go.wp_at_zero Go.wp_at_succ

set_option maxRecDepth 100000 in
set_option maxHeartbeats 6400000 in
theorem writeLit2_any (bl bn bk bi bp bd d : Nat) (a : Option Addr) (c0 : Nat) (l : List Sn) (nm p : Bs) (da : Option Addr) (dc : Nat) (zs : List Int) (t : Sn) (W0 : World) (hC : CapW W0 bl bn bk bi bp bd d a l.length c0 nm 2 p da zs.length dc) (h : RdS W0 a l) (hR : RightS l) (hs : SmallS l) (ht : atS l nm = some t) (hpl : p.length ≤ 1048576) (hd : Reads .u8 W0 da zs) (hu8 : U8 zs) (hdc : zs.length ≤ dc) (hdl : zs.length ≤ 1048576) :
    Turns W0 32 #[.pointer (some ⟨bl, 0, none⟩), .pointer (some ⟨bn, 0, none⟩), .pointer (some ⟨bk, 0, none⟩), .pointer (some ⟨bi, 0, none⟩), .pointer (some ⟨bp, 0, none⟩), .pointer (some ⟨bd, 0, none⟩)] t (WriP l t p zs 2) := by
  refine ⟨enters_of Tryz.func32 (by kernel_rfl) rfl, fun x c w hw hx => ?_⟩
  have htl := hR.own t (atS_some ht).1
  have hUr := right_P.1 htl.2.2
  have hUl : t.layer.length ≤ 1000000 := by have := hUr.len; omega
  have HUs := hide (right_small hUr)
  have hll : (chainS l t).length ≤ 4 := chainS_len hR (atS_some ht).1
  have HSL : Hid (SmallL (lwQ' l t)) := hide (fun es he => by
    have h9 := (layersP_zero.1 (chainS_fit hR (atS_some ht).1)).2 es (by rw [chain_low]; exact List.mem_append_left _ he)
    exact ⟨by have := h9.len; omega, right_small h9⟩)
  have HX := hide hx
  have B0 := hide (below_next (below_alloc w (.cells #[.string (str t.name), .string (str t.parent), .int .i64 t.kind, .bool t.lease, .slice x t.layer.length c] 37)) (below_alloc _ (.cells #[.string ⟨#[]⟩, .string ⟨#[]⟩, .int .i64 0, .bool false, .slice none 0 0] 37)))
  have X1 := hide ((Box5.new w (.string (str t.name)) (.string (str t.parent)) (.int .i64 t.kind) (.bool t.lease) (.slice x t.layer.length c) 37).below (below_alloc _ (.cells #[.string ⟨#[]⟩, .string ⟨#[]⟩, .int .i64 0, .bool false, .slice none 0 0] 37)))
  have X2 := hide (Box5.new (w.alloc (.cells #[.string (str t.name), .string (str t.parent), .int .i64 t.kind, .bool t.lease, .slice x t.layer.length c] 37)) (.string ⟨#[]⟩) (.string ⟨#[]⟩) (.int .i64 0) (.bool false) (.slice none 0 0) 37)
  have HC := hide (hC.below (below_next hw (below_next (below_alloc w (.cells #[.string (str t.name), .string (str t.parent), .int .i64 t.kind, .bool t.lease, .slice x t.layer.length c] 37)) (below_alloc _ (.cells #[.string ⟨#[]⟩, .string ⟨#[]⟩, .int .i64 0, .bool false, .slice none 0 0] 37)))))
  have HCH := hide (fun (u : World) (hu : Below W0.heap.size W0 u) => implChainOf_ok a c0 l.length l nm t u (h.below hu) rfl hR hs ht)
  rw [chain_low, List.length_append] at hll
  have HLW : Hid (chainS l t = lwQ' l t ++ [t.layer]) := hide (chain_low l t)
  have HLL := hide (show (chainS l t).length = (lwQ' l t).length + 1 by rw [chain_low, List.length_append]; rfl)
  have HD := hide hd
  have HU8z := hide hu8
  have HWW := hide hw
  show Calls Tryz.prog 32 #[.agg #[.string (str t.name), .string (str t.parent), .int .i64 t.kind, .bool t.lease, .slice x t.layer.length c], .pointer (some ⟨bl, 0, none⟩), .pointer (some ⟨bn, 0, none⟩), .pointer (some ⟨bk, 0, none⟩), .pointer (some ⟨bi, 0, none⟩), .pointer (some ⟨bp, 0, none⟩), .pointer (some ⟨bd, 0, none⟩)] w _
  simp only [World.size_alloc] at X2
  simp only [List.length_singleton] at hll
  have hsz0 : ((w.alloc (.cells #[.string (str t.name), .string (str t.parent), .int .i64 t.kind, .bool t.lease, .slice x t.layer.length c] 37)).alloc (.cells #[.string ⟨#[]⟩, .string ⟨#[]⟩, .int .i64 0, .bool false, .slice none 0 0] 37)).heap.size = w.heap.size + 2 := by simp
  clear hC h hR hs ht hd hu8 hw hx hUr htl
  by_cases hk : t.kind = 2
  · have hkb : (t.kind == 2) = true := by simp [hk]
    have HK := hide hk
    clear hk
    go_enter Tryz.func32, Tryz.ntmps32
    go_wp2_with fail
    refine bodyPost_ret (v := .tuple #[.agg #[.string (str t.name), .string (str t.parent), .int .i64 t.kind, .bool t.lease, .slice x t.layer.length c], .int .i64 10]) (by simp [results, Tryz.results32, go_sem]) rfl ?_
    exact ⟨t, 10, x, c, .inl ⟨HK.out, rfl⟩, rfl, HX.out.below (below_next (below_alloc _ _) (below_alloc _ _)), below_next (below_alloc _ _) (below_alloc _ _)⟩
  · have hkb : (t.kind == 2) = false := by simp [hk]
    have HK := hide hk
    clear hk
    have hfd : ∀ (u : World) (v : Value), (Instr.field 33 (.agg #[.int .i64 0, v]) 1).run Tryz.prog u = .ok v u := fun _ _ => by kernel_rfl
    obtain ⟨cc1, cc2, cc3, cc4, cc5, cc6, cc7, cc8, cc9⟩ := HC.out
    go_enter Tryz.func32, Tryz.ntmps32
    go_wp2_with fail
    clear cc1 cc2 cc3 cc4 cc5 cc6 cc7 cc8 cc9
    generalize (w.alloc (.cells #[.string (str t.name), .string (str t.parent), .int .i64 t.kind, .bool t.lease, .slice x t.layer.length c] 37)).alloc (.cells #[.string ⟨#[]⟩, .string ⟨#[]⟩, .int .i64 0, .bool false, .slice none 0 0] 37) = W1 at *
    refine (HCH.out _ (below_next HWW.out B0.out)).mono ?_
    rintro r w1 ⟨av, cv, rfl, hL, hcv, hb1⟩
    have B1 := hide (below_next B0.out hb1)
    have X11 := hide (X1.out.below hb1)
    have X21 := hide (X2.out.below hb1)
    have HC1 := hide (HC.out.below hb1)
    have hs1 := hb1.size
    rw [HLW.out] at hL
    have HL := hide hL.front
    rw [HLL.out] at hcv ⊢
    clear hL hb1
    go_wp2_with fail
    have eg : ∀ args w, (callFunc 70 args).run Tryz.prog w = .ok (.enter 70 args) w := enters_of Tryz.func70 (by kernel_rfl) rfl
    have KC : Hid (∀ w' : World, Below w1.heap.size w1 w' → CapW w' bl bn bk bi bp bd d a l.length c0 nm 2 p da zs.length dc ∧ Five w' w.heap.size (.string (str t.name)) (.string (str t.parent)) (.int .i64 t.kind) (.bool t.lease) (.slice x t.layer.length c)) := hide (fun w' hb => ⟨HC1.out.below hb, X11.out.1.below hb⟩)
    have HFR : Hid (∀ u : World, Below w1.heap.size w1 u → RdL u av (lwQ' l t)) := hide (fun u hu => HL.out.below hu)
    have HXB : Hid (∀ u : World, Below w1.heap.size w1 u → RdE u x t.layer) := hide (fun u hu => HX.out.below (below_next B1.out hu))
    have BB0 : Hid (∀ {u : World}, Below w1.heap.size w1 u → Below W0.heap.size W0 u) := hide (fun hu => below_next (below_next HWW.out B1.out) hu)
    have hcv' : ((lwQ' l t).length : Int) ≤ (cv : Int) := by omega
    have hL0 : (0 : Int) ≤ ((lwQ' l t).length : Int) := by omega
    have hdr : w1.drew.heap.size = w1.heap.size := rfl
    refine wp_region_held_drew (S := fun w' => CapW w' bl bn bk bi bp bd d a l.length c0 nm 2 p da zs.length dc ∧ Five w' w.heap.size (.string (str t.name)) (.string (str t.parent)) (.int .i64 t.kind) (.bool t.lease) (.slice x t.layer.length c)) (by kernel_rfl) (KC.out _ (Below.refl _ _).drew) (fun hHeld => ?_)
    change wpAnyH _ _ _ _ _ _ (Array.replicate _ false) _ _
    refine wpAnyH_take (i := 0) (oi := { dst := some 20, op := _, type := _, pos := _, after := _, guard := _ }) (v := .slice (some ⟨d, 0, none⟩) 3 3) rfl (by kernel_rfl) (by kernel_rfl) (by kernel_rfl) (fun _ _ _ h => h) (Or.inl ⟨by rfl, ?_⟩) hHeld ?_
    · rintro w ⟨⟨p1, p2, p3, p4, p5, p6, p7, p8, p9⟩, q0, q1, q2, q3, q4⟩
      go_simp
    try simp only [Act.put, List.setIfInBounds_toArray, List.set_cons_zero, List.set_cons_succ]
    refine wpAnyH_take (i := 1) (oi := { dst := some 21, op := _, type := _, pos := _, after := _, guard := _ }) (v := .int .i64 2) rfl (by kernel_rfl) (by kernel_rfl) (by kernel_rfl) (fun _ _ _ h => h) (Or.inl ⟨by rfl, ?_⟩) hHeld ?_
    · rintro w ⟨⟨p1, p2, p3, p4, p5, p6, p7, p8, p9⟩, q0, q1, q2, q3, q4⟩
      go_simp
    try simp only [Act.put, List.setIfInBounds_toArray, List.set_cons_zero, List.set_cons_succ]
    refine wpAnyH_take (i := 2) (oi := { dst := some 22, op := _, type := _, pos := _, after := _, guard := _ }) (v := .int .i64 1) rfl (by kernel_rfl) (by kernel_rfl) (by kernel_rfl) (fun _ _ _ h => h) (Or.inl ⟨by rfl, ?_⟩) hHeld ?_
    · rintro w ⟨⟨p1, p2, p3, p4, p5, p6, p7, p8, p9⟩, q0, q1, q2, q3, q4⟩
      go_simp <;> (first | done | decide | (simp [IntKind.wrap, IntKind.bits, IntKind.signed]; omega) | omega)
    try simp only [Act.put, List.setIfInBounds_toArray, List.set_cons_zero, List.set_cons_succ]
    refine wpAnyH_take (i := 3) (oi := { dst := some 23, op := _, type := _, pos := _, after := _, guard := _ }) (v := .pointer (some ⟨d, 1, none⟩)) rfl (by kernel_rfl) (by kernel_rfl) (by kernel_rfl) (fun _ _ _ h => h) (Or.inl ⟨by rfl, ?_⟩) hHeld ?_
    · rintro w ⟨⟨p1, p2, p3, p4, p5, p6, p7, p8, p9⟩, q0, q1, q2, q3, q4⟩
      go_simp
    try simp only [Act.put, List.setIfInBounds_toArray, List.set_cons_zero, List.set_cons_succ]
    refine wpAnyH_take (i := 4) (oi := { dst := some 24, op := _, type := _, pos := _, after := _, guard := _ }) (v := .func (.func 70) #[] #[]) rfl (by kernel_rfl) (by kernel_rfl) (by kernel_rfl) (fun _ _ _ h => h) (Or.inl ⟨by rfl, ?_⟩) hHeld ?_
    · rintro w ⟨⟨p1, p2, p3, p4, p5, p6, p7, p8, p9⟩, q0, q1, q2, q3, q4⟩
      go_simp
    try simp only [Act.put, List.setIfInBounds_toArray, List.set_cons_zero, List.set_cons_succ]
    refine wpAnyH_take (i := 5) (oi := { dst := some 25, op := _, type := _, pos := _, after := _, guard := _ }) (v := .slice av ((lwQ' l t).length + 1) cv) rfl (by kernel_rfl) (by kernel_rfl) (by kernel_rfl) (fun _ _ _ h => h) (Or.inl ⟨by rfl, ?_⟩) hHeld ?_
    · rintro w ⟨⟨p1, p2, p3, p4, p5, p6, p7, p8, p9⟩, q0, q1, q2, q3, q4⟩
      go_simp
    try simp only [Act.put, List.setIfInBounds_toArray, List.set_cons_zero, List.set_cons_succ]
    refine wpAnyH_take (i := 6) (oi := { dst := some 26, op := _, type := _, pos := _, after := _, guard := _ }) (v := .slice av ((lwQ' l t).length + 1) cv) rfl (by kernel_rfl) (by kernel_rfl) (by kernel_rfl) (fun _ _ _ h => h) (Or.inl ⟨by rfl, ?_⟩) hHeld ?_
    · rintro w ⟨⟨p1, p2, p3, p4, p5, p6, p7, p8, p9⟩, q0, q1, q2, q3, q4⟩
      go_simp
    try simp only [Act.put, List.setIfInBounds_toArray, List.set_cons_zero, List.set_cons_succ]
    refine wpAnyH_take (i := 7) (oi := { dst := some 27, op := _, type := _, pos := _, after := _, guard := _ }) (v := .int .i64 ((lwQ' l t).length + 1 : Nat)) rfl (by kernel_rfl) (by kernel_rfl) (by kernel_rfl) (fun _ _ _ h => h) (Or.inl ⟨by rfl, ?_⟩) hHeld ?_
    · rintro w ⟨⟨p1, p2, p3, p4, p5, p6, p7, p8, p9⟩, q0, q1, q2, q3, q4⟩
      go_simp
    try simp only [Act.put, List.setIfInBounds_toArray, List.set_cons_zero, List.set_cons_succ]
    refine wpAnyH_take (i := 8) (oi := { dst := some 28, op := _, type := _, pos := _, after := _, guard := _ }) (v := .int .i64 ((lwQ' l t).length : Nat)) rfl (by kernel_rfl) (by kernel_rfl) (by kernel_rfl) (fun _ _ _ h => h) (Or.inl ⟨by rfl, ?_⟩) hHeld ?_
    · rintro w ⟨⟨p1, p2, p3, p4, p5, p6, p7, p8, p9⟩, q0, q1, q2, q3, q4⟩
      go_simp <;> (first | done | decide | (simp [IntKind.wrap, IntKind.bits, IntKind.signed]; omega) | omega)
    try simp only [Act.put, List.setIfInBounds_toArray, List.set_cons_zero, List.set_cons_succ]
    refine wpAnyH_take (i := 9) (oi := { dst := some 29, op := _, type := _, pos := _, after := _, guard := _ }) (v := .slice av (lwQ' l t).length cv) rfl (by kernel_rfl) (by kernel_rfl) (by kernel_rfl) (fun _ _ _ h => h) (Or.inl ⟨by rfl, ?_⟩) hHeld ?_
    · rintro w ⟨⟨p1, p2, p3, p4, p5, p6, p7, p8, p9⟩, q0, q1, q2, q3, q4⟩
      go_simp <;> (first | done | omega | skip)
    try simp only [Act.put, List.setIfInBounds_toArray, List.set_cons_zero, List.set_cons_succ]
    refine wpAnyH_take (i := 10) (oi := { dst := some 30, op := _, type := _, pos := _, after := _, guard := _ }) (v := .pointer (some ⟨w.heap.size, 4, none⟩)) rfl (by kernel_rfl) (by kernel_rfl) (by kernel_rfl) (fun _ _ _ h => h) (Or.inl ⟨by rfl, ?_⟩) hHeld ?_
    · rintro w ⟨⟨p1, p2, p3, p4, p5, p6, p7, p8, p9⟩, q0, q1, q2, q3, q4⟩
      go_simp
    try simp only [Act.put, List.setIfInBounds_toArray, List.set_cons_zero, List.set_cons_succ]
    refine wpAnyH_take (i := 11) (oi := { dst := some 31, op := _, type := _, pos := _, after := _, guard := _ }) (v := .slice x t.layer.length c) rfl (by kernel_rfl) (by kernel_rfl) (by kernel_rfl) (fun _ _ _ h => h) (Or.inl ⟨by rfl, ?_⟩) hHeld ?_
    · rintro w ⟨⟨p1, p2, p3, p4, p5, p6, p7, p8, p9⟩, q0, q1, q2, q3, q4⟩
      go_simp
    try simp only [Act.put, List.setIfInBounds_toArray, List.set_cons_zero, List.set_cons_succ]
    refine wpAnyH_take (i := 12) (oi := { dst := some 32, op := _, type := _, pos := _, after := _, guard := _ }) (v := .string (str p)) rfl (by kernel_rfl) (by kernel_rfl) (by kernel_rfl) (fun _ _ _ h => h) (Or.inl ⟨by rfl, ?_⟩) hHeld ?_
    · rintro w ⟨⟨p1, p2, p3, p4, p5, p6, p7, p8, p9⟩, q0, q1, q2, q3, q4⟩
      go_simp
    try simp only [Act.put, List.setIfInBounds_toArray, List.set_cons_zero, List.set_cons_succ]
    refine wpAnyH_take (i := 13) (oi := { dst := some 33, op := _, type := _, pos := _, after := _, guard := _ }) (v := .slice da zs.length dc) rfl (by kernel_rfl) (by kernel_rfl) (by kernel_rfl) (fun _ _ _ h => h) (Or.inl ⟨by rfl, ?_⟩) hHeld ?_
    · rintro w ⟨⟨p1, p2, p3, p4, p5, p6, p7, p8, p9⟩, q0, q1, q2, q3, q4⟩
      go_simp
    try simp only [Act.put, List.setIfInBounds_toArray, List.set_cons_zero, List.set_cons_succ]
    refine wpAnyH_ready (rs := [14, 15]) (by kernel_rfl) (by simp) ?_
    refine AllReadyH.cons rfl (fun K hK => ?_) (AllReadyH.cons rfl (fun K hK => ?_) AllReadyH.nil)
    · have BD : Below w1.heap.size w1 w1.drew := (Below.refl _ _).drew
      go_simp
      refine (deeds1_any av cv _ (lwQ' l t) x c t.layer.length t.layer p zs _ _ (HFR.out _ BD) rfl (by omega) HSL.out (HXB.out _ BD) rfl hUl HUs.out hpl).mono ?_
      rintro r w2 ⟨q, rep, V, hD, av2, cv2, rfl, hG, hb2⟩
      have B2 := hide (below_next BD hb2)
      have HDD := hide hD
      have G2 := hide hG
      have hs2 := hb2.size
      clear hD hG hb2
      go_wp2_with fail
      refine hK.out _ _ (KC.out _ B2.out) (fun hHeld => ?_)
      clear hK K
      try simp only [Act.put, List.setIfInBounds_toArray, List.set_cons_zero, List.set_cons_succ]
      refine wpAnyH_ready (rs := [15]) (by kernel_rfl) (by simp) ?_
      refine AllReadyH.cons rfl (fun K hK => ?_) AllReadyH.nil
      go_simp
      refine hK.out _ _ (KC.out _ (below_next B2.out (below_alloc _ _))) (fun hHeld => ?_)
      clear hK K
      try simp only [Act.put, List.setIfInBounds_toArray, List.set_cons_zero, List.set_cons_succ]
      refine wpAnyH_ready (rs := [16]) (by kernel_rfl) (by simp) ?_
      refine AllReadyH.cons rfl (fun K hK => ?_) AllReadyH.nil
      go_simp
      refine hK.out _ _ (KC.out _ (below_next B2.out (below_alloc _ _))) (fun hHeld => ?_)
      clear hK K
      try simp only [Act.put, List.setIfInBounds_toArray, List.set_cons_zero, List.set_cons_succ]
      have BU1 := hide (below_next B2.out (below_alloc w2 (.cells #[.int .i64 q, .int .i64 rep, .slice av2 V.length cv2] 69)))
      have HU7 := hide (X11.out.below BU1.out)
      have HU8 := hide (X21.out.below BU1.out)
      have HU11 : Hid (Tri (w2.alloc (.cells #[.int .i64 q, .int .i64 rep, .slice av2 V.length cv2] 69)) w2.heap.size (.int .i64 q) (.int .i64 rep) (.slice av2 V.length cv2)) := hide ⟨by simp, by simp, by simp⟩
      have GU := hide (G2.out.below (below_alloc w2 (.cells #[.int .i64 q, .int .i64 rep, .slice av2 V.length cv2] 69)))
      have BU := hide (below_next B1.out BU1.out)
      have hsU : w2.heap.size < (w2.alloc (.cells #[.int .i64 q, .int .i64 rep, .slice av2 V.length cv2] 69)).heap.size := by simp
      generalize w2.alloc (.cells #[.int .i64 q, .int .i64 rep, .slice av2 V.length cv2] 69) = U at *
      refine wpAnyH_done (by kernel_rfl) ?_ _
      obtain ⟨u0, u1, u2⟩ := HU11.out
      obtain ⟨⟨e0, e1, e2, e3, e4⟩, ef⟩ := HU7.out
      have ef4 := ef 4
      have hB11 : w.heap.size ≠ w2.heap.size := by omega
      clear ef
      go_wp2_with fail
      have KS := hide (Kept.setCell (S := fun b => b = w.heap.size) (p := ⟨w.heap.size, 4, none⟩) (Kept.refl _ (U)) (fun _ => rfl) (.slice av2 V.length cv2))
      have Y7 : Hid (Five ((U).setCell ⟨w.heap.size, 4, none⟩ (.slice av2 V.length cv2)) w.heap.size (.string (str t.name)) (.string (str t.parent)) (.int .i64 t.kind) (.bool t.lease) (.slice av2 V.length cv2)) := hide (Five.set4 HU7.out.1 _)
      have Y8 := hide (HU8.out.kept KS.out (by omega))
      have Y11 : Hid (Tri ((U).setCell ⟨w.heap.size, 4, none⟩ (.slice av2 V.length cv2)) w2.heap.size (.int .i64 q) (.int .i64 rep) (.slice av2 V.length cv2)) := hide (HU11.out.kept KS.out (fun e => hB11 e.symm))
      have GY := hide (GU.out.kept KS.out (fun b hb e => by omega))
      have BY := hide (BU.out.setCell (p := ⟨w.heap.size, 4, none⟩) (Nat.le_refl _) (.slice av2 V.length cv2))
      have hsY := KS.out.size
      clear u0 u1 u2 e0 e1 e2 e3 e4 ef4 KS
      generalize (U).setCell ⟨w.heap.size, 4, none⟩ (.slice av2 V.length cv2) = Y at *
      have KD : Hid (∀ w' : World, Below Y.heap.size Y w' → Five w' w.heap.size (.string (str t.name)) (.string (str t.parent)) (.int .i64 t.kind) (.bool t.lease) (.slice av2 V.length cv2) ∧ Tri w' w2.heap.size (.int .i64 q) (.int .i64 rep) (.slice av2 V.length cv2)) := hide (fun w' hb => ⟨Y7.out.below hb, Y11.out.below hb⟩)
      refine wp_region_held_drew (S := fun w' => Five w' w.heap.size (.string (str t.name)) (.string (str t.parent)) (.int .i64 t.kind) (.bool t.lease) (.slice av2 V.length cv2) ∧ Tri w' w2.heap.size (.int .i64 q) (.int .i64 rep) (.slice av2 V.length cv2)) (by kernel_rfl) (KD.out _ (Below.refl _ _).drew) (fun hHeld => ?_)
      change wpAnyH _ _ _ _ _ _ (Array.replicate _ false) _ _
      refine wpAnyH_take (i := 0) (oi := { dst := some 38, op := _, type := _, pos := _, after := _, guard := _ }) (v := .agg #[.string (str t.name), .string (str t.parent), .int .i64 t.kind, .bool t.lease, .slice av2 V.length cv2]) rfl (by kernel_rfl) (by kernel_rfl) (by kernel_rfl) (fun _ _ _ h => h) (Or.inl ⟨by rfl, ?_⟩) hHeld ?_
      · rintro w ⟨⟨q0, q1, q2, q3, q4⟩, p1, p2, p3⟩
        go_simp
      try simp only [Act.put, List.setIfInBounds_toArray, List.set_cons_zero, List.set_cons_succ]
      refine wpAnyH_take (i := 1) (oi := { dst := some 39, op := _, type := _, pos := _, after := _, guard := _ }) (v := .pointer (some ⟨w2.heap.size, 0, none⟩)) rfl (by kernel_rfl) (by kernel_rfl) (by kernel_rfl) (fun _ _ _ h => h) (Or.inl ⟨by rfl, ?_⟩) hHeld ?_
      · rintro w ⟨⟨q0, q1, q2, q3, q4⟩, p1, p2, p3⟩
        go_simp
      try simp only [Act.put, List.setIfInBounds_toArray, List.set_cons_zero, List.set_cons_succ]
      refine wpAnyH_take (i := 2) (oi := { dst := some 40, op := _, type := _, pos := _, after := _, guard := _ }) (v := .int .i64 q) rfl (by kernel_rfl) (by kernel_rfl) (by kernel_rfl) (fun _ _ _ h => h) (Or.inl ⟨by rfl, ?_⟩) hHeld ?_
      · rintro w ⟨⟨q0, q1, q2, q3, q4⟩, p1, p2, p3⟩
        go_simp
      try simp only [Act.put, List.setIfInBounds_toArray, List.set_cons_zero, List.set_cons_succ]
      refine wpAnyH_take (i := 3) (oi := { dst := some 41, op := _, type := _, pos := _, after := _, guard := _ }) (v := .pointer (some ⟨w2.heap.size, 1, none⟩)) rfl (by kernel_rfl) (by kernel_rfl) (by kernel_rfl) (fun _ _ _ h => h) (Or.inl ⟨by rfl, ?_⟩) hHeld ?_
      · rintro w ⟨⟨q0, q1, q2, q3, q4⟩, p1, p2, p3⟩
        go_simp
      try simp only [Act.put, List.setIfInBounds_toArray, List.set_cons_zero, List.set_cons_succ]
      refine wpAnyH_take (i := 4) (oi := { dst := some 42, op := _, type := _, pos := _, after := _, guard := _ }) (v := .int .i64 rep) rfl (by kernel_rfl) (by kernel_rfl) (by kernel_rfl) (fun _ _ _ h => h) (Or.inl ⟨by rfl, ?_⟩) hHeld ?_
      · rintro w ⟨⟨q0, q1, q2, q3, q4⟩, p1, p2, p3⟩
        go_simp
      try simp only [Act.put, List.setIfInBounds_toArray, List.set_cons_zero, List.set_cons_succ]
      refine wpAnyH_ready (rs := [5]) (by kernel_rfl) (by simp) ?_
      refine AllReadyH.cons rfl (fun K hK => ?_) AllReadyH.nil
      have BN : Hid (Below Y.heap.size Y (Y.alloc (.cells #[.int .i64 q, .int .i64 rep] 2)).drew) := hide ((below_alloc Y _).drew)
      have N0 : Hid (Two (Y.alloc (.cells #[.int .i64 q, .int .i64 rep] 2)).drew Y.heap.size (.int .i64 q) (.int .i64 rep)) := hide (Two.new Y (.int .i64 q) (.int .i64 rep) 2)
      go_simp
      refine hK.out _ _ (KD.out _ BN.out) (fun hHeld => ?_)
      clear hK K
      try simp only [Act.put, List.setIfInBounds_toArray, List.set_cons_zero, List.set_cons_succ]
      refine wpAnyH_ready (rs := [6]) (by kernel_rfl) (by simp) ?_
      refine AllReadyH.cons rfl (fun K hK => ?_) AllReadyH.nil
      go_simp
      refine (or_any _ q rep _ N0.out.1 N0.out.2).mono ?_
      rintro r w9 ⟨rfl, rfl⟩
      go_wp2_with fail
      refine hK.out _ _ (KD.out _ BN.out) (fun hHeld => ?_)
      clear hK K
      try simp only [Act.put, List.setIfInBounds_toArray, List.set_cons_zero, List.set_cons_succ]
      have Y82 := hide (Y8.out.below BN.out)
      have GY2 := hide (GY.out.below BN.out)
      have BY2 : Hid (Below w.heap.size w (Y.alloc (.cells #[.int .i64 q, .int .i64 rep] 2)).drew) := hide (BY.out.trans (BN.out.mono (by have := BY.out.size; omega)))
      have KDD := hide (KD.out _ BN.out)
      clear N0 BN KD
      generalize (Y.alloc (.cells #[.int .i64 q, .int .i64 rep] 2)).drew = Y2 at *
      obtain ⟨⟨t0, t1, t2, t3, t4⟩, tf⟩ := Y82.out
      have tf0 := tf 0
      have tf1 := tf 1
      have tf2 := tf 2
      have tf3 := tf 3
      have tf4 := tf 4
      clear tf
      refine wpAnyH_ready (rs := [7]) (by kernel_rfl) (by simp) ?_
      refine AllReadyH.cons rfl (fun K hK => ?_) AllReadyH.nil
      go_simp
      have K5 := hide (Kept.five Y2 (w.heap.size + 1) (.string (str t.name)) (.string (str t.parent)) (.int .i64 t.kind) (.bool t.lease) (.slice av2 V.length cv2))
      refine hK.out _ _ ⟨KDD.out.1.kept K5.out (by omega), KDD.out.2.kept K5.out (by omega)⟩ (fun hHeld => ?_)
      clear hK K
      try simp only [Act.put, List.setIfInBounds_toArray, List.set_cons_zero, List.set_cons_succ]
      refine wpAnyH_ready (rs := [8]) (by kernel_rfl) (by simp) ?_
      refine AllReadyH.cons rfl (fun K hK => ?_) AllReadyH.nil
      go_simp
      refine hK.out _ _ ⟨KDD.out.1.kept K5.out (by omega), KDD.out.2.kept K5.out (by omega)⟩ (fun hHeld => ?_)
      clear hK K
      try simp only [Act.put, List.setIfInBounds_toArray, List.set_cons_zero, List.set_cons_succ]
      refine wpAnyH_done (by kernel_rfl) ?_ _
      have Z5 := hide (Y82.out.set (.string (str t.name)) (.string (str t.parent)) (.int .i64 t.kind) (.bool t.lease) (.slice av2 V.length cv2))
      have GZ := hide (GY2.out.kept K5.out (fun b hb e => by omega))
      have BZ := hide (Below.five BY2.out (show w.heap.size ≤ w.heap.size + 1 by omega) (.string (str t.name)) (.string (str t.parent)) (.int .i64 t.kind) (.bool t.lease) (.slice av2 V.length cv2))
      clear t0 t1 t2 t3 t4 tf0 tf1 tf2 tf3 tf4
      generalize ((((Y2.setCell ⟨w.heap.size + 1, 0, none⟩ (.string (str t.name))).setCell ⟨w.heap.size + 1, 1, none⟩ (.string (str t.parent))).setCell ⟨w.heap.size + 1, 2, none⟩ (.int .i64 t.kind)).setCell ⟨w.heap.size + 1, 3, none⟩ (.bool t.lease)).setCell ⟨w.heap.size + 1, 4, none⟩ (.slice av2 V.length cv2) = Z at *
      obtain ⟨⟨t0, t1, t2, t3, t4⟩, tf⟩ := Z5.out
      go_wp2_with fail
      refine bodyPost_ret (v := .tuple #[.agg #[.string (str t.name), .string (str t.parent), .int .i64 t.kind, .bool t.lease, .slice av2 V.length cv2], .int .i64 (orI q rep)]) (by simp [results, Tryz.results32, go_sem, t0, t1, t2, t3, t4]) rfl ?_
      exact ⟨⟨t.name, t.parent, t.kind, t.lease, V⟩, orI q rep, av2, cv2, .inr ⟨HK.out, q, rep, V, HDD.out, rfl, rfl⟩, rfl, GZ.out.rd, BZ.out⟩
    · have BD0 : Below w1.heap.size w1 ((w1.alloc (.cells #[.int .i64 0, .int .i64 0, .slice none 0 0] 69)).drew) := (below_alloc w1 _).drew
      have Z0 : Hid (Box3 ((w1.alloc (.cells #[.int .i64 0, .int .i64 0, .slice none 0 0] 69)).drew) w1.heap.size (.int .i64 0) (.int .i64 0) (.slice none 0 0)) := hide (Box3.new w1 _ _ _ _)
      go_simp
      refine hK.out _ _ (KC.out _ BD0) (fun hHeld => ?_)
      clear hK K
      try simp only [Act.put, List.setIfInBounds_toArray, List.set_cons_zero, List.set_cons_succ]
      refine wpAnyH_ready (rs := [14]) (by kernel_rfl) (by simp) ?_
      refine AllReadyH.cons rfl (fun K hK => ?_) AllReadyH.nil
      go_simp
      have BD := BD0
      have hsZ : ((w1.alloc (.cells #[.int .i64 0, .int .i64 0, .slice none 0 0] 69)).drew).heap.size = w1.heap.size + 1 := by show (w1.alloc _).heap.size = _; rw [World.size_alloc]
      generalize (w1.alloc (.cells #[.int .i64 0, .int .i64 0, .slice none 0 0] 69)).drew = WZ at *
      refine (deeds1_any av cv _ (lwQ' l t) x c t.layer.length t.layer p zs _ _ (HFR.out _ BD) rfl (by omega) HSL.out (HXB.out _ BD) rfl hUl HUs.out hpl).mono ?_
      rintro r w2 ⟨q, rep, V, hD, av2, cv2, rfl, hG, hb2⟩
      have B2 := hide (below_next BD hb2)
      have HDD := hide hD
      have G2 := hide hG
      have hs2 := hb2.size
      have Z2 := hide (Z0.out.below hb2)
      obtain ⟨⟨z0, z1, z2⟩, z3, z4, z5⟩ := Z2.out
      clear hD hG hb2
      go_wp2_with fail
      refine hK.out _ _ (KC.out _ B2.out) (fun hHeld => ?_)
      clear hK K
      try simp only [Act.put, List.setIfInBounds_toArray, List.set_cons_zero, List.set_cons_succ]
      refine wpAnyH_ready (rs := [16]) (by kernel_rfl) (by simp) ?_
      refine AllReadyH.cons rfl (fun K hK => ?_) AllReadyH.nil
      go_simp
      have KT := hide (Kept.three' w2 w1.heap.size (.int .i64 q) (.int .i64 rep) (.slice av2 V.length cv2))
      have HU11 := hide (Tri.of (Z2.out.set (.int .i64 q) (.int .i64 rep) (.slice av2 V.length cv2)))
      have HU7 := hide ((X11.out.below B2.out).kept KT.out (by omega))
      have HU8 := hide ((X21.out.below B2.out).kept KT.out (by omega))
      have BB := hide (KT.out.below (B := w1.heap.size) (by omega) (fun k hk e => by omega))
      refine hK.out _ _ (KC.out _ (B2.out.trans BB.out)) (fun hHeld => ?_)
      clear hK K
      try simp only [Act.put, List.setIfInBounds_toArray, List.set_cons_zero, List.set_cons_succ]
      have GU := hide (G2.out.kept KT.out (fun b hb e => by omega))
      have BU := hide (below_next B1.out (B2.out.trans BB.out))
      have hsU := KT.out.size
      clear z0 z1 z2 z3 z4 z5
      generalize ((w2.setCell ⟨w1.heap.size, 0, none⟩ (.int .i64 q)).setCell ⟨w1.heap.size, 1, none⟩ (.int .i64 rep)).setCell ⟨w1.heap.size, 2, none⟩ (.slice av2 V.length cv2) = U at *
      refine wpAnyH_done (by kernel_rfl) ?_ _
      obtain ⟨u0, u1, u2⟩ := HU11.out
      obtain ⟨⟨e0, e1, e2, e3, e4⟩, ef⟩ := HU7.out
      have ef4 := ef 4
      have hB11 : w.heap.size ≠ w1.heap.size := by omega
      clear ef
      go_wp2_with fail
      have KS := hide (Kept.setCell (S := fun b => b = w.heap.size) (p := ⟨w.heap.size, 4, none⟩) (Kept.refl _ (U)) (fun _ => rfl) (.slice av2 V.length cv2))
      have Y7 : Hid (Five ((U).setCell ⟨w.heap.size, 4, none⟩ (.slice av2 V.length cv2)) w.heap.size (.string (str t.name)) (.string (str t.parent)) (.int .i64 t.kind) (.bool t.lease) (.slice av2 V.length cv2)) := hide (Five.set4 HU7.out.1 _)
      have Y8 := hide (HU8.out.kept KS.out (by omega))
      have Y11 : Hid (Tri ((U).setCell ⟨w.heap.size, 4, none⟩ (.slice av2 V.length cv2)) w1.heap.size (.int .i64 q) (.int .i64 rep) (.slice av2 V.length cv2)) := hide (HU11.out.kept KS.out (fun e => hB11 e.symm))
      have GY := hide (GU.out.kept KS.out (fun b hb e => by omega))
      have BY := hide (BU.out.setCell (p := ⟨w.heap.size, 4, none⟩) (Nat.le_refl _) (.slice av2 V.length cv2))
      have hsY := KS.out.size
      clear u0 u1 u2 e0 e1 e2 e3 e4 ef4 KS
      generalize (U).setCell ⟨w.heap.size, 4, none⟩ (.slice av2 V.length cv2) = Y at *
      have KD : Hid (∀ w' : World, Below Y.heap.size Y w' → Five w' w.heap.size (.string (str t.name)) (.string (str t.parent)) (.int .i64 t.kind) (.bool t.lease) (.slice av2 V.length cv2) ∧ Tri w' w1.heap.size (.int .i64 q) (.int .i64 rep) (.slice av2 V.length cv2)) := hide (fun w' hb => ⟨Y7.out.below hb, Y11.out.below hb⟩)
      refine wp_region_held_drew (S := fun w' => Five w' w.heap.size (.string (str t.name)) (.string (str t.parent)) (.int .i64 t.kind) (.bool t.lease) (.slice av2 V.length cv2) ∧ Tri w' w1.heap.size (.int .i64 q) (.int .i64 rep) (.slice av2 V.length cv2)) (by kernel_rfl) (KD.out _ (Below.refl _ _).drew) (fun hHeld => ?_)
      change wpAnyH _ _ _ _ _ _ (Array.replicate _ false) _ _
      refine wpAnyH_take (i := 0) (oi := { dst := some 38, op := _, type := _, pos := _, after := _, guard := _ }) (v := .agg #[.string (str t.name), .string (str t.parent), .int .i64 t.kind, .bool t.lease, .slice av2 V.length cv2]) rfl (by kernel_rfl) (by kernel_rfl) (by kernel_rfl) (fun _ _ _ h => h) (Or.inl ⟨by rfl, ?_⟩) hHeld ?_
      · rintro w ⟨⟨q0, q1, q2, q3, q4⟩, p1, p2, p3⟩
        go_simp
      try simp only [Act.put, List.setIfInBounds_toArray, List.set_cons_zero, List.set_cons_succ]
      refine wpAnyH_take (i := 1) (oi := { dst := some 39, op := _, type := _, pos := _, after := _, guard := _ }) (v := .pointer (some ⟨w1.heap.size, 0, none⟩)) rfl (by kernel_rfl) (by kernel_rfl) (by kernel_rfl) (fun _ _ _ h => h) (Or.inl ⟨by rfl, ?_⟩) hHeld ?_
      · rintro w ⟨⟨q0, q1, q2, q3, q4⟩, p1, p2, p3⟩
        go_simp
      try simp only [Act.put, List.setIfInBounds_toArray, List.set_cons_zero, List.set_cons_succ]
      refine wpAnyH_take (i := 2) (oi := { dst := some 40, op := _, type := _, pos := _, after := _, guard := _ }) (v := .int .i64 q) rfl (by kernel_rfl) (by kernel_rfl) (by kernel_rfl) (fun _ _ _ h => h) (Or.inl ⟨by rfl, ?_⟩) hHeld ?_
      · rintro w ⟨⟨q0, q1, q2, q3, q4⟩, p1, p2, p3⟩
        go_simp
      try simp only [Act.put, List.setIfInBounds_toArray, List.set_cons_zero, List.set_cons_succ]
      refine wpAnyH_take (i := 3) (oi := { dst := some 41, op := _, type := _, pos := _, after := _, guard := _ }) (v := .pointer (some ⟨w1.heap.size, 1, none⟩)) rfl (by kernel_rfl) (by kernel_rfl) (by kernel_rfl) (fun _ _ _ h => h) (Or.inl ⟨by rfl, ?_⟩) hHeld ?_
      · rintro w ⟨⟨q0, q1, q2, q3, q4⟩, p1, p2, p3⟩
        go_simp
      try simp only [Act.put, List.setIfInBounds_toArray, List.set_cons_zero, List.set_cons_succ]
      refine wpAnyH_take (i := 4) (oi := { dst := some 42, op := _, type := _, pos := _, after := _, guard := _ }) (v := .int .i64 rep) rfl (by kernel_rfl) (by kernel_rfl) (by kernel_rfl) (fun _ _ _ h => h) (Or.inl ⟨by rfl, ?_⟩) hHeld ?_
      · rintro w ⟨⟨q0, q1, q2, q3, q4⟩, p1, p2, p3⟩
        go_simp
      try simp only [Act.put, List.setIfInBounds_toArray, List.set_cons_zero, List.set_cons_succ]
      refine wpAnyH_ready (rs := [5]) (by kernel_rfl) (by simp) ?_
      refine AllReadyH.cons rfl (fun K hK => ?_) AllReadyH.nil
      have BN : Hid (Below Y.heap.size Y (Y.alloc (.cells #[.int .i64 q, .int .i64 rep] 2)).drew) := hide ((below_alloc Y _).drew)
      have N0 : Hid (Two (Y.alloc (.cells #[.int .i64 q, .int .i64 rep] 2)).drew Y.heap.size (.int .i64 q) (.int .i64 rep)) := hide (Two.new Y (.int .i64 q) (.int .i64 rep) 2)
      go_simp
      refine hK.out _ _ (KD.out _ BN.out) (fun hHeld => ?_)
      clear hK K
      try simp only [Act.put, List.setIfInBounds_toArray, List.set_cons_zero, List.set_cons_succ]
      refine wpAnyH_ready (rs := [6]) (by kernel_rfl) (by simp) ?_
      refine AllReadyH.cons rfl (fun K hK => ?_) AllReadyH.nil
      go_simp
      refine (or_any _ q rep _ N0.out.1 N0.out.2).mono ?_
      rintro r w9 ⟨rfl, rfl⟩
      go_wp2_with fail
      refine hK.out _ _ (KD.out _ BN.out) (fun hHeld => ?_)
      clear hK K
      try simp only [Act.put, List.setIfInBounds_toArray, List.set_cons_zero, List.set_cons_succ]
      have Y82 := hide (Y8.out.below BN.out)
      have GY2 := hide (GY.out.below BN.out)
      have BY2 : Hid (Below w.heap.size w (Y.alloc (.cells #[.int .i64 q, .int .i64 rep] 2)).drew) := hide (BY.out.trans (BN.out.mono (by have := BY.out.size; omega)))
      have KDD := hide (KD.out _ BN.out)
      clear N0 BN KD
      generalize (Y.alloc (.cells #[.int .i64 q, .int .i64 rep] 2)).drew = Y2 at *
      obtain ⟨⟨t0, t1, t2, t3, t4⟩, tf⟩ := Y82.out
      have tf0 := tf 0
      have tf1 := tf 1
      have tf2 := tf 2
      have tf3 := tf 3
      have tf4 := tf 4
      clear tf
      refine wpAnyH_ready (rs := [7]) (by kernel_rfl) (by simp) ?_
      refine AllReadyH.cons rfl (fun K hK => ?_) AllReadyH.nil
      go_simp
      have K5 := hide (Kept.five Y2 (w.heap.size + 1) (.string (str t.name)) (.string (str t.parent)) (.int .i64 t.kind) (.bool t.lease) (.slice av2 V.length cv2))
      refine hK.out _ _ ⟨KDD.out.1.kept K5.out (by omega), KDD.out.2.kept K5.out (by omega)⟩ (fun hHeld => ?_)
      clear hK K
      try simp only [Act.put, List.setIfInBounds_toArray, List.set_cons_zero, List.set_cons_succ]
      refine wpAnyH_ready (rs := [8]) (by kernel_rfl) (by simp) ?_
      refine AllReadyH.cons rfl (fun K hK => ?_) AllReadyH.nil
      go_simp
      refine hK.out _ _ ⟨KDD.out.1.kept K5.out (by omega), KDD.out.2.kept K5.out (by omega)⟩ (fun hHeld => ?_)
      clear hK K
      try simp only [Act.put, List.setIfInBounds_toArray, List.set_cons_zero, List.set_cons_succ]
      refine wpAnyH_done (by kernel_rfl) ?_ _
      have Z5 := hide (Y82.out.set (.string (str t.name)) (.string (str t.parent)) (.int .i64 t.kind) (.bool t.lease) (.slice av2 V.length cv2))
      have GZ := hide (GY2.out.kept K5.out (fun b hb e => by omega))
      have BZ := hide (Below.five BY2.out (show w.heap.size ≤ w.heap.size + 1 by omega) (.string (str t.name)) (.string (str t.parent)) (.int .i64 t.kind) (.bool t.lease) (.slice av2 V.length cv2))
      clear t0 t1 t2 t3 t4 tf0 tf1 tf2 tf3 tf4
      generalize ((((Y2.setCell ⟨w.heap.size + 1, 0, none⟩ (.string (str t.name))).setCell ⟨w.heap.size + 1, 1, none⟩ (.string (str t.parent))).setCell ⟨w.heap.size + 1, 2, none⟩ (.int .i64 t.kind)).setCell ⟨w.heap.size + 1, 3, none⟩ (.bool t.lease)).setCell ⟨w.heap.size + 1, 4, none⟩ (.slice av2 V.length cv2) = Z at *
      obtain ⟨⟨t0, t1, t2, t3, t4⟩, tf⟩ := Z5.out
      go_wp2_with fail
      refine bodyPost_ret (v := .tuple #[.agg #[.string (str t.name), .string (str t.parent), .int .i64 t.kind, .bool t.lease, .slice av2 V.length cv2], .int .i64 (orI q rep)]) (by simp [results, Tryz.results32, go_sem, t0, t1, t2, t3, t4]) rfl ?_
      exact ⟨⟨t.name, t.parent, t.kind, t.lease, V⟩, orI q rep, av2, cv2, .inr ⟨HK.out, q, rep, V, HDD.out, rfl, rfl⟩, rfl, GZ.out.rd, BZ.out⟩
end Go.Proofs.YteegkblkfdnfiaaGreat

