/-
  The program's readEntry where it comes to the digests: a loop by goto.
-/
import Derived.Test.YtcknabinmbknaaaGreatDoorRdF
namespace Go.Proofs.YtcknabinmbknaaaGreatDoor
open Go.RowKit
set_option linter.unusedVariables false
set_option maxRecDepth 100000

theorem noDash {l : Bs} (h : l ≠ [45]) : ((str l).toList == [45]) = false := by
  rw [ByteArray.toList_eq, str_data, beq_eq_false_iff_ne]; exact h
theorem noDashB {l : Bs} (h : l ≠ [45]) : ((str l).toList == (⟨#[45]⟩ : ByteArray).toList) = false := strNo (b := [45]) h
/-- What stands at the label: done digests in a row of its own, words that are left. -/
structure AtC (w W : World) (p : Bs) (V : Int) (r0 ws : List Bs) (done : List Int) (av : Option Addr) (cv : Nat) : Prop where
  st : St w W (joinC 44 ws) true (.string (str p)) (.int .i64 1) (.int .i64 V) (.slice av done.length cv)
  own : W.ownsRow (w.heap.size + 3) 2 1 (.slice av done.length cv) done.length (done.map (Value.int .i64))
  cut : cutC 44 (joinC 44 ws) = ws
  len : (joinC 44 ws).length ≤ 2097152
  some : ws ≠ []
  num : done.length + ws.length ≤ 2097153
  eq : r0.mapM hexW = (ws.mapM hexW).map (done ++ ·)
set_option maxHeartbeats 3200000 in
theorem readEntry_g (l a p n : Bs) (V : Int) (hc0 : cutC 32 l = [a, p, n]) (hk : kindW a = some 1) (hv : numW n = some V) (u : TypeId) (vp : Value) (w : World) (hl : l.length ≤ 2097152) (hg : Gl w u vp) :
    Calls Tryz.prog 46 #[.string (str l)] w fun r w' => r = Dies u vp ∧ Below w.heap.size w w' := by
  have hr : joinC 32 [] ≠ [45] := by decide
  have HC0 := hide hc0
  clear hc0
  have HK := hide hk
  clear hk
  have HV := hide hv
  clear hv
  have HG : Hid (∀ w' : World, Below w.heap.size w w' → Gl w' u vp) := hide (fun w' hb => hg.below hb)
  clear hg
  have S0 := hide (St.new w l 39 39 88)
  go_enter Tryz.func46, Tryz.ntmps46
  go_wp2_with fail
  go_step3
  go_wp2_with fail
  generalize ((w.alloc (.cells #[.string ⟨#[]⟩, .int .i64 0, .int .i64 0, .slice none 0 0] 39)).alloc (.cells #[.string ⟨#[]⟩, .int .i64 0, .int .i64 0, .slice none 0 0] 39)).alloc (.cells #[.string (str l), .bool true] 88) = W0 at *
  refine (next_yes 32 (w.heap.size + 1 + 1) l a [p, n] W0 S0.out.c HC0.out hl).mono ?_
  rintro r0 w1 ⟨rfl, c1, k1, z1⟩
  have S1 := hide (S0.out.next c1 k1 z1)
  clear c1 k1 z1 S0
  go_wp2_with fail
  refine (readKind_yes a 1 u vp w1 (HG.out _ S1.out.below) HK.out).mono ?_
  rintro r1 w2 ⟨rfl, rfl⟩
  obtain ⟨⟨q0, q1, q2, q3⟩, qf⟩ := S1.out.m
  have qg := qf 1
  go_wp2_with fail
  have S2 := hide (S1.out.set 1 (.int .i64 1) (S1.out.m.set1 (.int .i64 1)))
  generalize w2.setCell ⟨w.heap.size + 1, 1, none⟩ (.int .i64 1) = W2 at *
  clear S1 q0 q1 q2 q3 qf qg
  have hd1 : decide ((p :: [n]) ≠ ([] : List Bs)) = true := by simp
  rw [hd1] at S2
  have HN1 := hide (cut_next HC0.out (by simp) hl)
  clear hd1
  go_wp2_with fail
  refine (next_yes 32 (w.heap.size + 1 + 1) _ p [n] W2 S2.out.c HN1.out.1 HN1.out.2).mono ?_
  rintro r2 w3 ⟨rfl, c3, k3, z3⟩
  have S3 := hide (S2.out.next c3 k3 z3)
  have hpl : p.length ≤ 2097152 := by
    have h2 := cutC_each (m := 32) l p (by rw [HC0.out]; simp)
    omega
  clear c3 k3 z3 S2
  go_wp2_with fail
  refine (cloneM (str p) w3 (by rw [str_size]; omega)).mono ?_
  rintro r3 w4 ⟨rfl, b4⟩
  have S4 := hide (S3.out.low b4)
  clear b4 S3
  obtain ⟨⟨q0, q1, q2, q3⟩, qf⟩ := S4.out.m
  have qg := qf 0
  go_wp2_with fail
  have S5 := hide (S4.out.set 0 (.string (str p)) (S4.out.m.set0 (.string (str p))))
  generalize w4.setCell ⟨w.heap.size + 1, 0, none⟩ (.string (str p)) = W5 at *
  clear S4 q0 q1 q2 q3 qf qg
  obtain ⟨⟨q0, q1, q2, q3⟩, qf⟩ := S5.out.m
  have hd2 : decide ([n] ≠ ([] : List Bs)) = true := by simp
  rw [hd2] at S5
  have HN2 := hide (cut_next HN1.out.1 (by simp) HN1.out.2)
  have hnl : n.length ≤ 2097152 := by
    have h2 := cutC_each (m := 32) l n (by rw [HC0.out]; simp)
    omega
  clear hd2
  go_wp2_with fail
  refine (next_yes 32 (w.heap.size + 1 + 1) _ n [] W5 S5.out.c HN2.out.1 HN2.out.2).mono ?_
  rintro r4 w6 ⟨rfl, c6, k6, z6⟩
  have S6 := hide (S5.out.next c6 k6 z6)
  clear c6 k6 z6 S5 q0 q1 q2 q3 qf
  go_wp2_with fail
  refine (readNumber_yes n V w6 hnl HV.out).mono ?_
  rintro r5 w7 ⟨rfl, b7⟩
  have S7 := hide (S6.out.low b7)
  clear b7 S6
  obtain ⟨⟨q0, q1, q2, q3⟩, qf⟩ := S7.out.m
  have qg := qf 2
  obtain ⟨⟨c0, c1⟩, c2, c3⟩ := S7.out.c
  have hd3 := noDash hr
  have hd4 := noDashB hr
  go_wp2_with fail
  have S8 := hide (S7.out.set 2 (.int .i64 V) (S7.out.m.set2 (.int .i64 V)))
  generalize w7.setCell ⟨w.heap.size + 1, 2, none⟩ (.int .i64 V) = W8 at *
  clear S7 q0 q1 q2 q3 qf qg c0 c1 c2 c3
  have hd5 : decide (([] : List Bs) ≠ []) = false := by simp
  rw [hd5] at S8
  clear hd5
  go_step3
  obtain ⟨⟨q0, q1, q2, q3⟩, qf⟩ := S8.out.m
  have HNX := hide (fun (u' : World) (hu : Below W8.heap.size W8 u') => next_no (w.heap.size + 1 + 1) [] ⟨#[44]⟩ u vp u' (S8.out.c.below hu) (HG.out _ (below_next S8.out.below hu)).un)
  go_wp2_with fail
  refine wp_region_any (by kernel_rfl) ?_
  change wpAny _ _ _ _ _ _ _ (World.drew _)
  refine wpAny_take (i := 0) (v := .pointer (some ⟨w.heap.size + 1, 3, none⟩)) rfl (by kernel_rfl) (by kernel_rfl) (by kernel_rfl) (fun _ _ _ h => h) (Or.inl ⟨by rfl, ?_⟩) ?_
  · intro w
    go_simp
  refine wpAny_ready (rs := [1, 2]) (by kernel_rfl) (by simp) ?_
  refine AllReady.cons rfl (fun K hK => ?_) ?_
  · go_simp
    refine hK _ _ ?_
    clear hK K
    refine wpAny_ready (rs := [2]) (by kernel_rfl) (by simp) ?_
    refine AllReady.cons rfl (fun K hK => ?_) AllReady.nil
    go_simp
    go_wp2_with fail
    refine (HNX.out _ (Below.refl _ _).drew).mono ?_
    rintro r w9 ⟨rfl, rfl⟩
    exact ⟨rfl, rfl, S8.out.below.drew⟩
  refine AllReady.cons rfl (fun K hK => ?_) AllReady.nil
  go_simp
  go_wp2_with fail
  refine (HNX.out _ (Below.refl _ _).drew).mono ?_
  rintro r w9 ⟨rfl, rfl⟩
  exact ⟨rfl, rfl, S8.out.below.drew⟩
theorem keptFour (W : World) (b : Nat) (y0 y1 y2 y3 : Value) : Kept (fun x => x = b) W ((((W.setCell ⟨b, 0, none⟩ y0).setCell ⟨b, 1, none⟩ y1).setCell ⟨b, 2, none⟩ y2).setCell ⟨b, 3, none⟩ y3) :=
  Kept.setCell (S := fun x => x = b) (p := ⟨b, 3, none⟩) (Kept.setCell (S := fun x => x = b) (p := ⟨b, 2, none⟩) (Kept.setCell (S := fun x => x = b) (p := ⟨b, 1, none⟩) (Kept.setCell (S := fun x => x = b) (p := ⟨b, 0, none⟩) (Kept.refl _ _) (fun _ => rfl) _) (fun _ => rfl) _) (fun _ => rfl) _) (fun _ => rfl) _
set_option maxHeartbeats 6400000 in
theorem readEntry_h (l a p n : Bs) (r' : List Bs) (r0 : List Bs) (V : Int) (hc0 : cutC 32 l = a :: p :: n :: r') (hk : kindW a = some 1) (hv : numW n = some V) (hr : joinC 32 r' ≠ [45]) (hne : r' ≠ []) (h0 : r0 = cutC 44 (joinC 32 r')) (u : TypeId) (vp : Value) (w : World) (hl : l.length ≤ 2097152) (hg : Gl w u vp) :
    Calls Tryz.prog 46 #[.string (str l)] w fun r w' => (match r0.mapM hexW with | some ds => ∃ av cv, r = .returned (.agg #[.string (str p), .int .i64 1, .int .i64 V, .slice av ds.length cv]) ∧ w'.ownsRow w.heap.size 2 1 (.slice av ds.length cv) ds.length (ds.map (Value.int .i64)) | none => r = Dies u vp) ∧ Below w.heap.size w w' := by
  have HC0 := hide hc0
  clear hc0
  have HK := hide hk
  clear hk
  have HV := hide hv
  clear hv
  have HG : Hid (∀ w' : World, Below w.heap.size w w' → Gl w' u vp) := hide (fun w' hb => hg.below hb)
  clear hg
  have S0 := hide (St.new w l 39 39 88)
  go_enter Tryz.func46, Tryz.ntmps46
  go_wp2_with fail
  refine wp_scope_jumps 1 (fun a' W => ∃ (ws : List Bs) (done : List Int) (av : Option Addr) (cv : Nat) (u5 u6 u7 u8 u9 u10 u11 u12 u13 u14 u15 u16 u17 u18 u19 u20 u21 u22 u23 u24 u25 u26 u27 u28 u29 u30 u31 : Value), AtC w W p V r0 ws done av cv ∧ a' = { tmps := #[.string (str l), undef, .pointer (some ⟨w.heap.size, 0, none⟩), .pointer (some ⟨w.heap.size + 1, 0, none⟩), .pointer (some ⟨w.heap.size + 1 + 1, 0, none⟩), u5, u6, u7, u8, u9, u10, u11, u12, u13, u14, u15, u16, u17, u18, u19, u20, u21, u22, u23, u24, u25, u26, u27, u28, u29, u30, u31], defers := [] }) (fun _ W => leftM (w.heap.size + 1 + 1) W) rfl ?_ ?_
  · go_wp2_with fail
    generalize ((w.alloc (.cells #[.string ⟨#[]⟩, .int .i64 0, .int .i64 0, .slice none 0 0] 39)).alloc (.cells #[.string ⟨#[]⟩, .int .i64 0, .int .i64 0, .slice none 0 0] 39)).alloc (.cells #[.string (str l), .bool true] 88) = W0 at *
    refine (next_yes 32 (w.heap.size + 1 + 1) l a (p :: n :: r') W0 S0.out.c HC0.out hl).mono ?_
    rintro r0 w1 ⟨rfl, c1, k1, z1⟩
    have S1 := hide (S0.out.next c1 k1 z1)
    clear c1 k1 z1 S0
    go_wp2_with fail
    refine (readKind_yes a 1 u vp w1 (HG.out _ S1.out.below) HK.out).mono ?_
    rintro r1 w2 ⟨rfl, rfl⟩
    obtain ⟨⟨q0, q1, q2, q3⟩, qf⟩ := S1.out.m
    have qg := qf 1
    go_wp2_with fail
    have S2 := hide (S1.out.set 1 (.int .i64 1) (S1.out.m.set1 (.int .i64 1)))
    generalize w2.setCell ⟨w.heap.size + 1, 1, none⟩ (.int .i64 1) = W2 at *
    clear S1 q0 q1 q2 q3 qf qg
    have hd1 : decide ((p :: (n :: r')) ≠ ([] : List Bs)) = true := by simp
    rw [hd1] at S2
    have HN1 := hide (cut_next HC0.out (by simp) hl)
    clear hd1
    go_wp2_with fail
    refine (next_yes 32 (w.heap.size + 1 + 1) _ p (n :: r') W2 S2.out.c HN1.out.1 HN1.out.2).mono ?_
    rintro r2 w3 ⟨rfl, c3, k3, z3⟩
    have S3 := hide (S2.out.next c3 k3 z3)
    have hpl : p.length ≤ 2097152 := by
      have h2 := cutC_each (m := 32) l p (by rw [HC0.out]; simp)
      omega
    clear c3 k3 z3 S2
    go_wp2_with fail
    refine (cloneM (str p) w3 (by rw [str_size]; omega)).mono ?_
    rintro r3 w4 ⟨rfl, b4⟩
    have S4 := hide (S3.out.low b4)
    clear b4 S3
    obtain ⟨⟨q0, q1, q2, q3⟩, qf⟩ := S4.out.m
    have qg := qf 0
    go_wp2_with fail
    have S5 := hide (S4.out.set 0 (.string (str p)) (S4.out.m.set0 (.string (str p))))
    generalize w4.setCell ⟨w.heap.size + 1, 0, none⟩ (.string (str p)) = W5 at *
    clear S4 q0 q1 q2 q3 qf qg
    obtain ⟨⟨q0, q1, q2, q3⟩, qf⟩ := S5.out.m
    have hd2 : decide ((n :: r') ≠ ([] : List Bs)) = true := by simp
    rw [hd2] at S5
    have HN2 := hide (cut_next HN1.out.1 (by simp) HN1.out.2)
    have hnl : n.length ≤ 2097152 := by
      have h2 := cutC_each (m := 32) l n (by rw [HC0.out]; simp)
      omega
    clear hd2
    go_wp2_with fail
    refine (next_yes 32 (w.heap.size + 1 + 1) _ n r' W5 S5.out.c HN2.out.1 HN2.out.2).mono ?_
    rintro r4 w6 ⟨rfl, c6, k6, z6⟩
    have S6 := hide (S5.out.next c6 k6 z6)
    clear c6 k6 z6 S5 q0 q1 q2 q3 qf
    go_wp2_with fail
    refine (readNumber_yes n V w6 hnl HV.out).mono ?_
    rintro r5 w7 ⟨rfl, b7⟩
    have S7 := hide (S6.out.low b7)
    clear b7 S6
    obtain ⟨⟨q0, q1, q2, q3⟩, qf⟩ := S7.out.m
    have qg := qf 2
    obtain ⟨⟨c0, c1⟩, c2, c3⟩ := S7.out.c
    have hd3 := noDash hr
    have hd4 := noDashB hr
    go_wp2_with fail
    have S8 := hide (S7.out.set 2 (.int .i64 V) (S7.out.m.set2 (.int .i64 V)))
    generalize w7.setCell ⟨w.heap.size + 1, 2, none⟩ (.int .i64 V) = W8 at *
    clear S7 q0 q1 q2 q3 qf qg c0 c1 c2 c3
    have hdn : decide (r' ≠ []) = true := by simp [hne]
    rw [hdn] at S8
    have hN := (cut_next HN2.out.1 hne HN2.out.2).2
    have hY := joinC_cut 44 (joinC 32 r')
    rw [← h0] at hY
    have hcl := cutC_length (m := 44) (joinC 32 r')
    rw [← h0] at hcl
    have hL : AtC w W8 p V r0 r0 [] none 0 := ⟨by rw [hY]; exact S8.out, World.ownsRow_nil _ _ _ _, by rw [hY]; exact h0.symm, by rw [hY]; exact hN, by rw [h0]; exact cutC_ne _ _, by simp; omega, by cases r0.mapM hexW <;> simp⟩
    clear hdn hN hY hcl hd3 hd4
    obtain ⟨done, av, cv, hL⟩ : ∃ done av cv, AtC w W8 p V r0 r0 done av cv := ⟨[], none, 0, hL⟩
    obtain ⟨ws, hws⟩ : ∃ ws, ws = r0 := ⟨_, rfl⟩
    have hL : AtC w W8 p V r0 ws done av cv := by rw [hws]; exact hL
    clear hws h0
    go_step3
    have H := hide hL
    clear hL
    obtain ⟨w0, rs, rfl⟩ : ∃ w0 rs, ws = w0 :: rs := by
      cases ws with
      | nil => exact absurd rfl H.out.some
      | cons a b => exact ⟨a, b, rfl⟩
    obtain ⟨i0, hi0, hz0, hz1, hz2⟩ := info_parts Tryz.infoI64
    obtain ⟨⟨q0, q1, q2, q3⟩, qf⟩ := H.out.st.m
    have hnum := H.out.num
    simp only [List.length_cons] at hnum
    have hsz := H.out.st.size
    have hm1 : done.length + 1 ≤ maxLen := by unfold maxLen; omega
    have hm2 : (done.length + 1) * 8 ≤ 140737488355328 := by omega
    have OL := hide H.out.own.lt
    cases hx : hexW w0 with
    | none =>
      have HX := hide hx
      have HE := hide (show r0.mapM hexW = none by rw [H.out.eq]; simp [List.mapM_cons, hx])
      clear hx
      go_wp2_with fail
      refine wp_region_any (by kernel_rfl) ?_
      change wpAny _ _ _ _ _ _ _ (World.drew _)
      refine wpAny_take (i := 0) (v := .pointer (some ⟨w.heap.size + 1, 3, none⟩)) rfl (by kernel_rfl) (by kernel_rfl) (by kernel_rfl) (fun _ _ _ h => h) (Or.inl ⟨by rfl, ?_⟩) ?_
      · intro w
        go_simp
      refine wpAny_ready (rs := [1, 2]) (by kernel_rfl) (by simp) ?_
      refine AllReady.cons rfl (fun K hK => ?_) ?_
      · go_simp
        refine hK _ _ ?_
        clear hK K
        refine wpAny_ready (rs := [2]) (by kernel_rfl) (by simp) ?_
        refine AllReady.cons rfl (fun K hK => ?_) AllReady.nil
        go_simp
        go_wp2_with fail
        refine (next_yes 44 (w.heap.size + 1 + 1) (joinC 44 (w0 :: rs)) w0 rs _ (H.out.st.c.below (Below.refl _ _).drew) H.out.cut H.out.len).mono ?_
        rintro r w5 ⟨rfl, c5, k5, z5⟩
        have S5 := hide ((H.out.st.low (Below.refl _ _).drew).next c5 k5 z5)
        have cm5 := S5.out.m.four.2.2.2
        clear c5 k5 z5
        refine hK _ _ ?_
        clear hK K
        refine wpAny_ready (rs := [3]) (by kernel_rfl) (by simp) ?_
        refine AllReady.cons rfl (fun K hK => ?_) AllReady.nil
        go_simp
        go_wp2_with fail
        refine (readDigest_no w0 u vp w5 HX.out (fun w' hb => (HG.out _ (below_next S5.out.below hb)).un)).mono ?_
        rintro r w6 ⟨rfl, b6⟩
        refine ⟨rfl, ?_, below_next S5.out.below b6⟩
        rw [HE.out]
      refine AllReady.cons rfl (fun K hK => ?_) AllReady.nil
      go_simp
      go_wp2_with fail
      refine (next_yes 44 (w.heap.size + 1 + 1) (joinC 44 (w0 :: rs)) w0 rs _ (H.out.st.c.below (Below.refl _ _).drew) H.out.cut H.out.len).mono ?_
      rintro r w5 ⟨rfl, c5, k5, z5⟩
      have S5 := hide ((H.out.st.low (Below.refl _ _).drew).next c5 k5 z5)
      have cm5 := S5.out.m.four.2.2.2
      clear c5 k5 z5
      refine hK _ _ ?_
      clear hK K
      refine wpAny_ready (rs := [1, 3]) (by kernel_rfl) (by simp) ?_
      refine AllReady.cons rfl (fun K hK => ?_) ?_
      · go_simp
        refine hK _ _ ?_
        clear hK K
        refine wpAny_ready (rs := [3]) (by kernel_rfl) (by simp) ?_
        refine AllReady.cons rfl (fun K hK => ?_) AllReady.nil
        go_simp
        go_wp2_with fail
        refine (readDigest_no w0 u vp w5 HX.out (fun w' hb => (HG.out _ (below_next S5.out.below hb)).un)).mono ?_
        rintro r w6 ⟨rfl, b6⟩
        refine ⟨rfl, ?_, below_next S5.out.below b6⟩
        rw [HE.out]
      refine AllReady.cons rfl (fun K hK => ?_) AllReady.nil
      go_simp
      go_wp2_with fail
      refine (readDigest_no w0 u vp w5 HX.out (fun w' hb => (HG.out _ (below_next S5.out.below hb)).un)).mono ?_
      rintro r w6 ⟨rfl, b6⟩
      refine ⟨rfl, ?_, below_next S5.out.below b6⟩
      rw [HE.out]
    | some d =>
      have HX := hide hx
      clear hx
      go_wp2_with fail
      go_region_law
        ((first
          | (have hO6 := O6; clear hO6; refine step_app (by rfl) (.tmp 23) (.tmp 26) 37 (by rfl) (w.heap.size + 3) 2 i0 (.int .i64 0) 1 8 Tryz.underlying37 hi0 hz0 hz1 hz2 rfl (by decide) (.slice av done.length cv) done.length (done.map (Value.int .i64)) (by rfl) (O6.out.alloc _) ⟨w6.heap.size, 0, none⟩ 1 1 [.int .i64 d] (by rfl) (by rfl) (news_int w6 d 2) (by intro u hu; simp at hu; subst hu; rfl) (done.length + 1) rfl hm1 hm2 (by simp; omega) ?_; intro av7 cv7 w7 hown7 hk7; have O7 := hide hown7; have K7 := hide hk7; have M7 := hide ((S6.out.m.below (below_alloc w6 (.cells #[.int .i64 d] 2))).kept hk7 (fun hq => by have := OL.out _ hq; omega)); obtain ⟨⟨-, -, -, e1⟩, ef⟩ := M7.out; have e3 := ef 3; clear hown7 hk7 ef)
          | (go_simp; go_wp2_with (first | (go_at_call 60; refine (next_yes 44 (w.heap.size + 1 + 1) (joinC 44 (w0 :: rs)) w0 rs _ (H.out.st.c.below (Below.refl _ _).drew) H.out.cut H.out.len).mono ?_; rintro r w5 ⟨rfl, c5, k5, z5⟩; have S5 := hide ((H.out.st.low (Below.refl _ _).drew).next c5 k5 z5); have O5 := hide (ownsRow_kept (ownsRow_below H.out.own (Below.refl _ _).drew) k5 (fun b hb e => by have := OL.out b hb; omega)); have cm5 := S5.out.m.four.2.2.2; clear c5 k5 z5) | (go_at_call 80; refine (readDigest_yes w0 d _ HX.out).mono ?_; rintro r w6 ⟨rfl, b6⟩; have S6 := hide (S5.out.low b6); have O6 := hide (ownsRow_below O5.out b6); have z7 : w.heap.size + 3 ≤ w6.heap.size := S6.out.size; have cm6 := S6.out.m.four.2.2.2; have cm7 : ∀ o, (w6.alloc o).cell? ⟨w.heap.size + 1, 3, none⟩ = some (.slice av done.length cv) := (fun o => (S6.out.low (below_alloc w6 o)).m.four.2.2.2); clear b6)))))
      all_goals
        have A6 := hide (S6.out.low (below_alloc w6 (.cells #[.int .i64 d] 2)))
        have S7 : Hid (St w w7 (joinC 44 rs) (decide (rs ≠ [])) (.string (str p)) (.int .i64 1) (.int .i64 V) (.slice av done.length cv)) := hide ⟨A6.out.x.kept K7.out (fun hq => by have := OL.out _ hq; omega), M7.out, A6.out.c.kept K7.out (fun hq => by have := OL.out _ hq; omega), Kept.below_own (B := w.heap.size) A6.out.below (by have := A6.out.size; omega) (ownsRow_mono (O6.out.alloc (.cells #[.int .i64 d] 2)) (by omega)) K7.out, by have h1 := K7.out.size; have h2 := A6.out.size; omega⟩
        have S8 := hide (S7.out.set 3 (.slice av7 (done.length + 1) cv7) (S7.out.m.set3 (.slice av7 (done.length + 1) cv7)))
        have O8 := hide (ownsRow_kept O7.out (keptCell w7 (w.heap.size + 1) 3 (.slice av7 (done.length + 1) cv7)) (fun b hb e => by have := O7.out.lt b hb; omega))
        have hdl : (done ++ [d]).length = done.length + 1 := by simp
        generalize w7.setCell ⟨w.heap.size + 1, 3, none⟩ (.slice av7 (done.length + 1) cv7) = W9 at *
        clear S7 A6 K7 M7 O7 O6 S6 O5 S5 cm5 cm6 cm7 e1 e3 q0 q1 q2 q3 qf
        by_cases hrs : rs = []
        · have hdf : decide (rs ≠ []) = false := by simp [hrs]
          rw [hdf] at S8
          have HE := hide (show r0.mapM hexW = some (done ++ [d]) by rw [H.out.eq, hrs]; simp [HX.out])
          obtain ⟨⟨c0, c1⟩, c2, c3⟩ := S8.out.c
          obtain ⟨⟨p0, p1, p2, p3⟩, pf⟩ := S8.out.m
          obtain ⟨⟨x0, x1, x2, x3⟩, xf⟩ := S8.out.x
          have g0 := xf 0
          have g1 := xf 1
          have g2 := xf 2
          have g3 := xf 3
          go_wp2_with fail
          first | (simp only [Exit.jump]; done) | (go_step3; go_wp2_with fail; simp only [Exit.jump]) | (simp only [Exit.jump]) | (trace_state; fail)
          refine bodyPost_ret (v := .agg #[.string (str p), .int .i64 1, .int .i64 V, .slice av7 (done.length + 1) cv7]) (by simp [results, Tryz.results46, go_sem, x0, x1, x2, x3]) rfl ⟨?_, S8.out.out _ _ _ _⟩
          rw [HE.out]
          refine ⟨av7, cv7, by rw [hdl], ?_⟩
          rw [hdl, List.map_append]
          exact ownsRow_mono (ownsRow_kept O8.out (keptFour W9 w.heap.size _ _ _ _) (fun b hb e => by have := O8.out.lt b hb; omega)) (by omega)
        · have hdf : decide (rs ≠ []) = true := by simp [hrs]
          rw [hdf] at S8
          obtain ⟨hja, -, hjc⟩ := cut_more H.out.cut hrs
          obtain ⟨⟨c0, c1⟩, c2, c3⟩ := S8.out.c
          have hjl := congrArg List.length hja
          simp only [List.length_append, List.length_cons] at hjl
          have HJ := hide (show AtC w W9 p V r0 rs (done ++ [d]) av7 cv7 from ⟨by rw [hdl]; exact S8.out, by rw [hdl, List.map_append]; exact O8.out, hjc, by have := H.out.len; omega, hrs, by simp; omega, by rw [H.out.eq]; simp only [List.mapM_cons, HX.out]; cases rs.mapM hexW <;> simp⟩)
          clear hjl hja hjc
          go_wp2_with fail
          go_step3
          exact ⟨rfl, ⟨rs, done ++ [d], av7, cv7, _, _, _, _, _, _, _, _, _, _, _, _, _, _, _, _, _, _, _, _, _, _, _, _, _, _, _, HJ.out, rfl⟩⟩
  · rintro a' W ⟨ws, done, av, cv, u5, u6, u7, u8, u9, u10, u11, u12, u13, u14, u15, u16, u17, u18, u19, u20, u21, u22, u23, u24, u25, u26, u27, u28, u29, u30, u31, hL, rfl⟩
    have H := hide hL
    clear hL h0
    obtain ⟨w0, rs, rfl⟩ : ∃ w0 rs, ws = w0 :: rs := by
      cases ws with
      | nil => exact absurd rfl H.out.some
      | cons a b => exact ⟨a, b, rfl⟩
    obtain ⟨i0, hi0, hz0, hz1, hz2⟩ := info_parts Tryz.infoI64
    obtain ⟨⟨q0, q1, q2, q3⟩, qf⟩ := H.out.st.m
    have hnum := H.out.num
    simp only [List.length_cons] at hnum
    have hsz := H.out.st.size
    have hm1 : done.length + 1 ≤ maxLen := by unfold maxLen; omega
    have hm2 : (done.length + 1) * 8 ≤ 140737488355328 := by omega
    have OL := hide H.out.own.lt
    cases hx : hexW w0 with
    | none =>
      have HX := hide hx
      have HE := hide (show r0.mapM hexW = none by rw [H.out.eq]; simp [List.mapM_cons, hx])
      clear hx
      go_wp2_with fail
      refine wp_region_any (by kernel_rfl) ?_
      change wpAny _ _ _ _ _ _ _ (World.drew _)
      refine wpAny_take (i := 0) (v := .pointer (some ⟨w.heap.size + 1, 3, none⟩)) rfl (by kernel_rfl) (by kernel_rfl) (by kernel_rfl) (fun _ _ _ h => h) (Or.inl ⟨by rfl, ?_⟩) ?_
      · intro w
        go_simp
      refine wpAny_ready (rs := [1, 2]) (by kernel_rfl) (by simp) ?_
      refine AllReady.cons rfl (fun K hK => ?_) ?_
      · go_simp
        refine hK _ _ ?_
        clear hK K
        refine wpAny_ready (rs := [2]) (by kernel_rfl) (by simp) ?_
        refine AllReady.cons rfl (fun K hK => ?_) AllReady.nil
        go_simp
        go_wp2_with fail
        refine (next_yes 44 (w.heap.size + 1 + 1) (joinC 44 (w0 :: rs)) w0 rs _ (H.out.st.c.below (Below.refl _ _).drew) H.out.cut H.out.len).mono ?_
        rintro r w5 ⟨rfl, c5, k5, z5⟩
        have S5 := hide ((H.out.st.low (Below.refl _ _).drew).next c5 k5 z5)
        have cm5 := S5.out.m.four.2.2.2
        clear c5 k5 z5
        refine hK _ _ ?_
        clear hK K
        refine wpAny_ready (rs := [3]) (by kernel_rfl) (by simp) ?_
        refine AllReady.cons rfl (fun K hK => ?_) AllReady.nil
        go_simp
        go_wp2_with fail
        refine (readDigest_no w0 u vp w5 HX.out (fun w' hb => (HG.out _ (below_next S5.out.below hb)).un)).mono ?_
        rintro r w6 ⟨rfl, b6⟩
        refine ⟨rfl, ?_, below_next S5.out.below b6⟩
        rw [HE.out]
      refine AllReady.cons rfl (fun K hK => ?_) AllReady.nil
      go_simp
      go_wp2_with fail
      refine (next_yes 44 (w.heap.size + 1 + 1) (joinC 44 (w0 :: rs)) w0 rs _ (H.out.st.c.below (Below.refl _ _).drew) H.out.cut H.out.len).mono ?_
      rintro r w5 ⟨rfl, c5, k5, z5⟩
      have S5 := hide ((H.out.st.low (Below.refl _ _).drew).next c5 k5 z5)
      have cm5 := S5.out.m.four.2.2.2
      clear c5 k5 z5
      refine hK _ _ ?_
      clear hK K
      refine wpAny_ready (rs := [1, 3]) (by kernel_rfl) (by simp) ?_
      refine AllReady.cons rfl (fun K hK => ?_) ?_
      · go_simp
        refine hK _ _ ?_
        clear hK K
        refine wpAny_ready (rs := [3]) (by kernel_rfl) (by simp) ?_
        refine AllReady.cons rfl (fun K hK => ?_) AllReady.nil
        go_simp
        go_wp2_with fail
        refine (readDigest_no w0 u vp w5 HX.out (fun w' hb => (HG.out _ (below_next S5.out.below hb)).un)).mono ?_
        rintro r w6 ⟨rfl, b6⟩
        refine ⟨rfl, ?_, below_next S5.out.below b6⟩
        rw [HE.out]
      refine AllReady.cons rfl (fun K hK => ?_) AllReady.nil
      go_simp
      go_wp2_with fail
      refine (readDigest_no w0 u vp w5 HX.out (fun w' hb => (HG.out _ (below_next S5.out.below hb)).un)).mono ?_
      rintro r w6 ⟨rfl, b6⟩
      refine ⟨rfl, ?_, below_next S5.out.below b6⟩
      rw [HE.out]
    | some d =>
      have HX := hide hx
      clear hx
      go_wp2_with fail
      go_region_law
        ((first
          | (have hO6 := O6; clear hO6; refine step_app (by rfl) (.tmp 23) (.tmp 26) 37 (by rfl) (w.heap.size + 3) 2 i0 (.int .i64 0) 1 8 Tryz.underlying37 hi0 hz0 hz1 hz2 rfl (by decide) (.slice av done.length cv) done.length (done.map (Value.int .i64)) (by rfl) (O6.out.alloc _) ⟨w6.heap.size, 0, none⟩ 1 1 [.int .i64 d] (by rfl) (by rfl) (news_int w6 d 2) (by intro u hu; simp at hu; subst hu; rfl) (done.length + 1) rfl hm1 hm2 (by simp; omega) ?_; intro av7 cv7 w7 hown7 hk7; have O7 := hide hown7; have K7 := hide hk7; have M7 := hide ((S6.out.m.below (below_alloc w6 (.cells #[.int .i64 d] 2))).kept hk7 (fun hq => by have := OL.out _ hq; omega)); obtain ⟨⟨-, -, -, e1⟩, ef⟩ := M7.out; have e3 := ef 3; clear hown7 hk7 ef)
          | (go_simp; go_wp2_with (first | (go_at_call 60; refine (next_yes 44 (w.heap.size + 1 + 1) (joinC 44 (w0 :: rs)) w0 rs _ (H.out.st.c.below (Below.refl _ _).drew) H.out.cut H.out.len).mono ?_; rintro r w5 ⟨rfl, c5, k5, z5⟩; have S5 := hide ((H.out.st.low (Below.refl _ _).drew).next c5 k5 z5); have O5 := hide (ownsRow_kept (ownsRow_below H.out.own (Below.refl _ _).drew) k5 (fun b hb e => by have := OL.out b hb; omega)); have cm5 := S5.out.m.four.2.2.2; clear c5 k5 z5) | (go_at_call 80; refine (readDigest_yes w0 d _ HX.out).mono ?_; rintro r w6 ⟨rfl, b6⟩; have S6 := hide (S5.out.low b6); have O6 := hide (ownsRow_below O5.out b6); have z7 : w.heap.size + 3 ≤ w6.heap.size := S6.out.size; have cm6 := S6.out.m.four.2.2.2; have cm7 : ∀ o, (w6.alloc o).cell? ⟨w.heap.size + 1, 3, none⟩ = some (.slice av done.length cv) := (fun o => (S6.out.low (below_alloc w6 o)).m.four.2.2.2); clear b6)))))
      all_goals
        have A6 := hide (S6.out.low (below_alloc w6 (.cells #[.int .i64 d] 2)))
        have S7 : Hid (St w w7 (joinC 44 rs) (decide (rs ≠ [])) (.string (str p)) (.int .i64 1) (.int .i64 V) (.slice av done.length cv)) := hide ⟨A6.out.x.kept K7.out (fun hq => by have := OL.out _ hq; omega), M7.out, A6.out.c.kept K7.out (fun hq => by have := OL.out _ hq; omega), Kept.below_own (B := w.heap.size) A6.out.below (by have := A6.out.size; omega) (ownsRow_mono (O6.out.alloc (.cells #[.int .i64 d] 2)) (by omega)) K7.out, by have h1 := K7.out.size; have h2 := A6.out.size; omega⟩
        have S8 := hide (S7.out.set 3 (.slice av7 (done.length + 1) cv7) (S7.out.m.set3 (.slice av7 (done.length + 1) cv7)))
        have O8 := hide (ownsRow_kept O7.out (keptCell w7 (w.heap.size + 1) 3 (.slice av7 (done.length + 1) cv7)) (fun b hb e => by have := O7.out.lt b hb; omega))
        have hdl : (done ++ [d]).length = done.length + 1 := by simp
        generalize w7.setCell ⟨w.heap.size + 1, 3, none⟩ (.slice av7 (done.length + 1) cv7) = W9 at *
        clear S7 A6 K7 M7 O7 O6 S6 O5 S5 cm5 cm6 cm7 e1 e3 q0 q1 q2 q3 qf
        by_cases hrs : rs = []
        · have hdf : decide (rs ≠ []) = false := by simp [hrs]
          rw [hdf] at S8
          have HE := hide (show r0.mapM hexW = some (done ++ [d]) by rw [H.out.eq, hrs]; simp [HX.out])
          obtain ⟨⟨c0, c1⟩, c2, c3⟩ := S8.out.c
          obtain ⟨⟨p0, p1, p2, p3⟩, pf⟩ := S8.out.m
          obtain ⟨⟨x0, x1, x2, x3⟩, xf⟩ := S8.out.x
          have g0 := xf 0
          have g1 := xf 1
          have g2 := xf 2
          have g3 := xf 3
          go_wp2_with fail
          first | (simp only [Exit.jump]; done) | (go_step3; go_wp2_with fail; simp only [Exit.jump]) | (simp only [Exit.jump]) | (trace_state; fail)
          refine bodyPost_ret (v := .agg #[.string (str p), .int .i64 1, .int .i64 V, .slice av7 (done.length + 1) cv7]) (by simp [results, Tryz.results46, go_sem, x0, x1, x2, x3]) rfl ⟨?_, S8.out.out _ _ _ _⟩
          rw [HE.out]
          refine ⟨av7, cv7, by rw [hdl], ?_⟩
          rw [hdl, List.map_append]
          exact ownsRow_mono (ownsRow_kept O8.out (keptFour W9 w.heap.size _ _ _ _) (fun b hb e => by have := O8.out.lt b hb; omega)) (by omega)
        · have hdf : decide (rs ≠ []) = true := by simp [hrs]
          rw [hdf] at S8
          obtain ⟨hja, -, hjc⟩ := cut_more H.out.cut hrs
          obtain ⟨⟨c0, c1⟩, c2, c3⟩ := S8.out.c
          have hcm : leftM (w.heap.size + 1 + 1) W9 = (joinC 44 rs).length := by unfold leftM; rw [c0]; exact str_size _
          have hcw : leftM (w.heap.size + 1 + 1) W = (joinC 44 (w0 :: rs)).length := by unfold leftM; rw [H.out.st.c.1.1]; exact str_size _
          have hjl := congrArg List.length hja
          simp only [List.length_append, List.length_cons] at hjl
          have HJ := hide (show AtC w W9 p V r0 rs (done ++ [d]) av7 cv7 from ⟨by rw [hdl]; exact S8.out, by rw [hdl, List.map_append]; exact O8.out, hjc, by have := H.out.len; omega, hrs, by simp; omega, by rw [H.out.eq]; simp only [List.mapM_cons, HX.out]; cases rs.mapM hexW <;> simp⟩)
          have HM := hide (show leftM (w.heap.size + 1 + 1) W9 < leftM (w.heap.size + 1 + 1) W by rw [hcm, hcw]; omega)
          clear hcm hcw
          clear hjl hja hjc
          go_wp2_with fail
          go_step3
          exact ⟨rfl, ⟨rs, done ++ [d], av7, cv7, _, _, _, _, _, _, _, _, _, _, _, _, _, _, _, _, _, _, _, _, _, _, _, _, _, _, _, HJ.out, rfl⟩, HM.out⟩
end Go.Proofs.YtcknabinmbknaaaGreatDoor
