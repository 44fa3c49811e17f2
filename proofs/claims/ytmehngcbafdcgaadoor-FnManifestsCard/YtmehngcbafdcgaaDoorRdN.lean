/-
  The program's readManifest where there is a digest to read: a loop by goto.
-/
import Derived.Test.YtmehngcbafdcgaaDoorRdM
namespace Go.Proofs.YtmehngcbafdcgaaDoor
open Go.RowKit
set_option linter.unusedVariables false
set_option maxRecDepth 100000

/-- What stands at the label: done digests in a row of its own, words that are left. -/
structure AtL (w W : World) (n : Bs) (r0 ws : List Bs) (done : List Int) (av : Option Addr) (cv : Nat) : Prop where
  x : Box W w.heap.size (.string ⟨#[]⟩) (.slice none 0 0)
  m : Box W (w.heap.size + 1) (.string (str n)) (.slice av done.length cv)
  c : Box W (w.heap.size + 1 + 1) (.string (str (joinC 32 ws))) (.bool true)
  own : W.ownsRow (w.heap.size + 3) 2 1 (.slice av done.length cv) done.length (done.map (Value.int .i64))
  below : Below w.heap.size w W
  size : w.heap.size + 3 ≤ W.heap.size
  cut : cutC 32 (joinC 32 ws) = ws
  len : (joinC 32 ws).length ≤ 2097152
  some : ws ≠ []
  num : done.length + ws.length ≤ 2097153
  eq : r0.mapM hexW = (ws.mapM hexW).map (done ++ ·)
theorem news_int (w : World) (d : Int) (t : TypeId) : ∀ j u, [Value.int .i64 d][j]? = some u → (w.alloc (.cells #[.int .i64 d] t)).cell? ((⟨w.heap.size, 0, none⟩ : Addr).add j) = some u := by
  intro j u hj
  rw [addr_add]
  match j, hj with
  | 0, hj => simp at hj; subst hj; simp
def leftM (C : Nat) (w : World) : Nat := match w.cell? ⟨C, 0, none⟩ with | some (.string s) => s.size | _ => 0

set_option maxHeartbeats 6400000 in
theorem readManifest_more (t a0 n d0 : Bs) (r1 : List Bs) (u : TypeId) (vp : Value) (w : World) (hl : t.length ≤ 2097152) (hc0 : cutC 32 (trimL t) = a0 :: n :: d0 :: r1) (hg : w.cell? ⟨0, 0, none⟩ = some (.iface u vp)) :
    Calls Tryd.prog 18 #[.string (str t)] w fun r w' => (match (d0 :: r1).mapM hexW with | some ds => ∃ av cv, r = .returned (.agg #[.string (str n), .slice av ds.length cv]) ∧ w'.ownsRow w.heap.size 2 1 (.slice av ds.length cv) ds.length (ds.map (Value.int .i64)) | none => r = Dies u vp) ∧ Below w.heap.size w w' := by
  have HG : Hid (∀ w' : World, Below w.heap.size w w' → w'.cell? ⟨0, 0, none⟩ = some (.iface u vp)) := hide (fun w' hb => (hb.cell (p := ⟨0, 0, none⟩) (World.block_lt_of_cell? w ⟨0, 0, none⟩ hg)).trans hg)
  clear hg
  have HTR := hide (fun u => trim_any t u hl)
  have hT := trim_len t
  generalize trimL t = T at *
  have HC0 := hide hc0
  clear hc0
  have X0 := hide (((Box.new w (.string ⟨#[]⟩) (.slice none 0 0) 27).below (below_alloc _ (.cells #[.string ⟨#[]⟩, .slice none 0 0] 27))).below (below_alloc _ (.cells #[.string (str T), .bool true] 63)))
  have M0 := hide ((Box.new (w.alloc (.cells #[.string ⟨#[]⟩, .slice none 0 0] 27)) (.string ⟨#[]⟩) (.slice none 0 0) 27).below (below_alloc _ (.cells #[.string (str T), .bool true] 63)))
  have C0 := hide (Box.new ((w.alloc (.cells #[.string ⟨#[]⟩, .slice none 0 0] 27)).alloc (.cells #[.string ⟨#[]⟩, .slice none 0 0] 27)) (.string (str T)) (.bool true) 63)
  have B0 := hide (below_next (below_next (below_alloc w (.cells #[.string ⟨#[]⟩, .slice none 0 0] 27)) (below_alloc _ (.cells #[.string ⟨#[]⟩, .slice none 0 0] 27))) (below_alloc _ (.cells #[.string (str T), .bool true] 63)))
  have hs1 : (w.alloc (.cells #[.string ⟨#[]⟩, .slice none 0 0] 27)).heap.size = w.heap.size + 1 := by simp
  have hs2 : ((w.alloc (.cells #[.string ⟨#[]⟩, .slice none 0 0] 27)).alloc (.cells #[.string ⟨#[]⟩, .slice none 0 0] 27)).heap.size = w.heap.size + 1 + 1 := by simp
  have hs3 : (((w.alloc (.cells #[.string ⟨#[]⟩, .slice none 0 0] 27)).alloc (.cells #[.string ⟨#[]⟩, .slice none 0 0] 27)).alloc (.cells #[.string (str T), .bool true] 63)).heap.size = w.heap.size + 3 := by simp
  rw [hs1] at M0
  rw [hs2] at C0
  have HS3 := hide hs3
  clear hs1 hs2 hs3
  go_enter Tryd.func18, Tryd.ntmps18
  go_wp2_with fail
  refine wp_scope_jumps 0 (fun a' W => ∃ (ws : List Bs) (done : List Int) (av : Option Addr) (cv : Nat) (u5 u6 u7 u8 u9 u10 u11 u12 u13 u14 u15 u16 u17 u18 u19 u20 u21 : Value), AtL w W n (d0 :: r1) ws done av cv ∧ a' = { tmps := #[.string (str t), undef, .pointer (some ⟨w.heap.size, 0, none⟩), .pointer (some ⟨w.heap.size + 1, 0, none⟩), .pointer (some ⟨w.heap.size + 1 + 1, 0, none⟩), u5, u6, u7, u8, u9, u10, u11, u12, u13, u14, u15, u16, u17, u18, u19, u20, u21], defers := [] }) (fun _ W => leftM (w.heap.size + 1 + 1) W) rfl ?_ ?_
  · go_wp2_with fail
    refine (HTR.out _).mono ?_
    rintro r w0 ⟨rfl, rfl⟩
    go_wp2_with fail
    generalize ((w.alloc (.cells #[.string ⟨#[]⟩, .slice none 0 0] 27)).alloc (.cells #[.string ⟨#[]⟩, .slice none 0 0] 27)).alloc (.cells #[.string (str T), .bool true] 63) = W0 at *
    refine (next_yes 32 (w.heap.size + 1 + 1) T a0 _ W0 C0.out HC0.out (by omega)).mono ?_
    rintro r w1 ⟨rfl, c1, k1, z1⟩
    have C1 := hide c1
    have X1 := hide (X0.out.kept k1 (by omega))
    have M1 := hide (M0.out.kept k1 (by omega))
    have B1 := hide (B0.out.trans (k1.below (B := w.heap.size) (by have := B0.out.size; omega) (fun b hb e => by omega)))
    have HS1 := hide (z1.trans HS3.out)
    clear c1 k1 z1 X0 M0 C0 B0 HS3
    have hd1 : decide ((n :: d0 :: r1) ≠ ([] : List Bs)) = true := by simp
    obtain ⟨hjl, -, hjc⟩ := cut_more HC0.out (by simp)
    have hjb : (joinC 32 (n :: d0 :: r1)).length ≤ 2097152 := by have h2 := congrArg List.length hjl; simp only [List.length_append, List.length_cons] at h2; omega
    have HJC := hide hjc
    clear hjl hjc
    rw [hd1] at C1
    go_wp2_with fail
    refine (next_yes 32 (w.heap.size + 1 + 1) _ n (d0 :: r1) w1 C1.out HJC.out hjb).mono ?_
    rintro r w2 ⟨rfl, c2, k2, z2⟩
    have C2 := hide c2
    have X2 := hide (X1.out.kept k2 (by omega))
    have M2 := hide (M1.out.kept k2 (by omega))
    have B2 := hide (B1.out.trans (k2.below (B := w.heap.size) (by have := B1.out.size; omega) (fun b hb e => by omega)))
    have HS2 := hide (z2.trans HS1.out)
    have hnl : n.length ≤ 2097152 := by have h2 := cutC_each (m := 32) (joinC 32 (n :: d0 :: r1)) n (by rw [HJC.out]; simp); omega
    clear c2 k2 z2 X1 M1 C1 B1 HS1
    go_wp2_with fail
    refine (cloneM (str n) w2 (by rw [str_size]; omega)).mono ?_
    rintro r w3 ⟨rfl, b3⟩
    have hw3 : w.heap.size + 3 ≤ w3.heap.size := by have h1 := HS2.out; have h2 := b3.size; omega
    have C3 := hide (C2.out.below b3)
    have X3 := hide (X2.out.below b3)
    have M3 := hide (M2.out.below b3)
    have B3 := hide (below_next B2.out b3)
    clear b3 X2 M2 C2 B2 HS2
    obtain ⟨⟨q0, q1⟩, q2, q3⟩ := M3.out
    go_wp2_with fail
    have K4 : Kept (fun x => x = w.heap.size + 1) w3 (w3.setCell ⟨w.heap.size + 1, 0, none⟩ (.string (str n))) := Kept.setCell (S := fun x => x = w.heap.size + 1) (p := ⟨w.heap.size + 1, 0, none⟩) (Kept.refl _ _) (fun _ => rfl) _
    have M4 := hide (boxOne M3.out (.string (str n)))
    have C4 := hide (C3.out.kept K4 (by omega))
    have X4 := hide (X3.out.kept K4 (by omega))
    have B4 := hide (B3.out.trans (K4.below (B := w.heap.size) (by have := B3.out.size; omega) (fun b hb e => by omega)))
    have hw4 : w.heap.size + 3 ≤ (w3.setCell ⟨w.heap.size + 1, 0, none⟩ (.string (str n))).heap.size := by simp [World.setCell]; omega
    generalize w3.setCell ⟨w.heap.size + 1, 0, none⟩ (.string (str n)) = W at *
    clear K4 M3 C3 X3 B3 q0 q1 q2 q3 hw3
    obtain ⟨hjx, -, hjy⟩ := cut_more HJC.out (by simp)
    have hT1 := cutC_length (m := 32) T
    rw [HC0.out] at hT1
    simp only [List.length_cons] at hT1
    have hjz := congrArg List.length hjx
    simp only [List.length_append, List.length_cons] at hjz
    have hd4 : decide ((d0 :: r1) ≠ ([] : List Bs)) = true := by simp
    rw [hd4] at C4
    have hL : AtL w W n (d0 :: r1) (d0 :: r1) [] none 0 := ⟨X4.out, M4.out, C4.out, World.ownsRow_nil _ _ _ _, B4.out, hw4, hjy, by omega, by simp, by simp; omega, by cases (d0 :: r1).mapM hexW <;> simp⟩
    clear hjx hjy hjz hd4 X4 M4 C4 B4 hw4 hT1 HJC
    obtain ⟨done, av, cv, hL⟩ : ∃ done av cv, AtL w W n (d0 :: r1) (d0 :: r1) done av cv := ⟨[], none, 0, hL⟩
    obtain ⟨ws, hws⟩ : ∃ ws, ws = d0 :: r1 := ⟨_, rfl⟩
    have hL : AtL w W n (d0 :: r1) ws done av cv := by rw [hws]; exact hL
    clear hws
    go_step3
    have H := hide hL
    clear hL
    obtain ⟨w0, rs, rfl⟩ : ∃ w0 rs, ws = w0 :: rs := by
      cases ws with
      | nil => exact absurd rfl H.out.some
      | cons a b => exact ⟨a, b, rfl⟩
    obtain ⟨i0, hi0, hz0, hz1, hz2⟩ := info_parts Tryd.infoI64
    obtain ⟨⟨q0, q1⟩, q2, q3⟩ := H.out.m
    have hnum := H.out.num
    simp only [List.length_cons] at hnum
    have hsz := H.out.size
    have hm1 : done.length + 1 ≤ maxLen := by unfold maxLen; omega
    have hm2 : (done.length + 1) * 8 ≤ 140737488355328 := by omega
    have OL := hide H.out.own.lt
    cases hx : hexW w0 with
    | none =>
      have HX := hide hx
      have HE := hide (show (d0 :: r1).mapM hexW = none by rw [H.out.eq]; simp [List.mapM_cons, hx])
      clear hx
      go_wp2_with fail
      refine wp_region_any (by kernel_rfl) ?_
      change wpAny _ _ _ _ _ _ _ (World.drew _)
      refine wpAny_take (i := 0) (v := .pointer (some ⟨w.heap.size + 1, 1, none⟩)) rfl (by kernel_rfl) (by kernel_rfl) (by kernel_rfl) (fun _ _ _ h => h) (Or.inl ⟨by rfl, ?_⟩) ?_
      · intro w
        go_simp
      refine wpAny_ready (rs := [1, 2]) (by kernel_rfl) (by simp) ?_
      refine AllReady.cons rfl (fun K hK => ?_) ?_
      · go_simp
        refine hK _ _ ?_
        clear hK K
        refine wpAny_ready (rs := [2]) (by kernel_rfl) (by simp) ?_
        refine AllReady.cons rfl (fun K hK => ?_) AllReady.nil
        go_simp
        go_wp2_with fail
        refine (next_yes 32 (w.heap.size + 1 + 1) (joinC 32 (w0 :: rs)) w0 rs _ (H.out.c.below (Below.refl _ _).drew) H.out.cut H.out.len).mono ?_
        rintro r w5 ⟨rfl, c5, k5, z5⟩
        have cm5 := ((H.out.m.below (Below.refl _ _).drew).kept k5 (by omega)).1.2
        have B5 := hide (H.out.below.drew.trans (k5.below (B := w.heap.size) (by have := H.out.below.size; show w.heap.size ≤ W.heap.size; omega) (fun b hb e => by omega)))
        clear c5 k5 z5
        refine hK _ _ ?_
        clear hK K
        refine wpAny_ready (rs := [3]) (by kernel_rfl) (by simp) ?_
        refine AllReady.cons rfl (fun K hK => ?_) AllReady.nil
        go_simp
        go_wp2_with fail
        refine (readDigest_no w0 u vp w5 HX.out (fun w' hb => HG.out _ (below_next B5.out hb))).mono ?_
        rintro r w6 ⟨rfl, b6⟩
        refine ⟨rfl, ?_, below_next B5.out b6⟩
        rw [HE.out]
      refine AllReady.cons rfl (fun K hK => ?_) AllReady.nil
      go_simp
      go_wp2_with fail
      refine (next_yes 32 (w.heap.size + 1 + 1) (joinC 32 (w0 :: rs)) w0 rs _ (H.out.c.below (Below.refl _ _).drew) H.out.cut H.out.len).mono ?_
      rintro r w5 ⟨rfl, c5, k5, z5⟩
      have cm5 := ((H.out.m.below (Below.refl _ _).drew).kept k5 (by omega)).1.2
      have B5 := hide (H.out.below.drew.trans (k5.below (B := w.heap.size) (by have := H.out.below.size; show w.heap.size ≤ W.heap.size; omega) (fun b hb e => by omega)))
      clear c5 k5 z5
      refine hK _ _ ?_
      clear hK K
      refine wpAny_ready (rs := [1, 3]) (by kernel_rfl) (by simp) ?_
      refine AllReady.cons rfl (fun K hK => ?_) ?_
      · go_simp
        refine hK _ _ ?_
        clear hK K
        refine wpAny_ready (rs := [3]) (by kernel_rfl) (by simp) ?_
        refine AllReady.cons rfl (fun K hK => ?_) AllReady.nil
        go_simp
        go_wp2_with fail
        refine (readDigest_no w0 u vp w5 HX.out (fun w' hb => HG.out _ (below_next B5.out hb))).mono ?_
        rintro r w6 ⟨rfl, b6⟩
        refine ⟨rfl, ?_, below_next B5.out b6⟩
        rw [HE.out]
      refine AllReady.cons rfl (fun K hK => ?_) AllReady.nil
      go_simp
      go_wp2_with fail
      refine (readDigest_no w0 u vp w5 HX.out (fun w' hb => HG.out _ (below_next B5.out hb))).mono ?_
      rintro r w6 ⟨rfl, b6⟩
      refine ⟨rfl, ?_, below_next B5.out b6⟩
      rw [HE.out]
    | some d =>
      have HX := hide hx
      clear hx
      go_wp2_with fail
      go_region_law
        ((first
          | (have hO6 := O6; clear hO6; refine step_app (by rfl) (.tmp 13) (.tmp 16) 25 (by rfl) (w.heap.size + 3) 2 i0 (.int .i64 0) 1 8 Tryd.underlying25 hi0 hz0 hz1 hz2 rfl (by decide) (.slice av done.length cv) done.length (done.map (Value.int .i64)) (by rfl) (O6.out.alloc _) ⟨w6.heap.size, 0, none⟩ 1 1 [.int .i64 d] (by rfl) (by rfl) (news_int w6 d 2) (by intro u hu; simp at hu; subst hu; rfl) (done.length + 1) rfl hm1 hm2 (by simp; omega) ?_; intro av7 cv7 w7 hown7 hk7; have O7 := hide hown7; have K7 := hide hk7; have M7 := hide ((M6.out.below (below_alloc w6 (.cells #[.int .i64 d] 2))).kept hk7 (fun hq => by have := OL.out _ hq; omega)); obtain ⟨⟨-, e1⟩, -, e3⟩ := M7.out; clear hown7 hk7)
          | (go_simp; go_wp2_with (first | (go_at_call 35; refine (next_yes 32 (w.heap.size + 1 + 1) (joinC 32 (w0 :: rs)) w0 rs _ (H.out.c.below (Below.refl _ _).drew) H.out.cut H.out.len).mono ?_; rintro r w5 ⟨rfl, c5, k5, z5⟩; have C5 := hide c5; have M5 := hide ((H.out.m.below (Below.refl _ _).drew).kept k5 (by omega)); have X5 := hide ((H.out.x.below (Below.refl _ _).drew).kept k5 (by omega)); have O5 := hide (ownsRow_kept (ownsRow_below H.out.own (Below.refl _ _).drew) k5 (fun b hb e => by have := OL.out b hb; omega)); have B5 := hide (H.out.below.drew.trans (k5.below (B := w.heap.size) (by have := H.out.below.size; show w.heap.size ≤ W.heap.size; omega) (fun b hb e => by omega))); have z6 : w.heap.size + 3 ≤ w5.heap.size := (by rw [z5]; exact hsz); have cm5 := M5.out.1.2; clear c5 k5 z5) | (go_at_call 37; refine (readDigest_yes w0 d _ HX.out).mono ?_; rintro r w6 ⟨rfl, b6⟩; have C6 := hide (C5.out.below b6); have M6 := hide (M5.out.below b6); have X6 := hide (X5.out.below b6); have O6 := hide (ownsRow_below O5.out b6); have B6 := hide (below_next B5.out b6); have z7 : w.heap.size + 3 ≤ w6.heap.size := Nat.le_trans z6 b6.size; have cm6 := M6.out.1.2; have cm7 : ∀ o, (w6.alloc o).cell? ⟨w.heap.size + 1, 1, none⟩ = some (.slice av done.length cv) := (fun o => (M6.out.below (below_alloc w6 o)).1.2); clear b6)))))
      all_goals
        have KS : Kept (fun b => b = w.heap.size + 1) w7 (w7.setCell ⟨w.heap.size + 1, 1, none⟩ (.slice av7 (done.length + 1) cv7)) := Kept.setCell (S := fun b => b = w.heap.size + 1) (p := ⟨w.heap.size + 1, 1, none⟩) (Kept.refl _ _) (fun _ => rfl) _
        have C8 := hide (((C6.out.below (below_alloc w6 (.cells #[.int .i64 d] 2))).kept K7.out (fun hq => by have := OL.out _ hq; omega)).kept KS (by omega))
        have X8 := hide (((X6.out.below (below_alloc w6 (.cells #[.int .i64 d] 2))).kept K7.out (fun hq => by have := OL.out _ hq; omega)).kept KS (by omega))
        have M8 := hide (boxSnd M7.out (.slice av7 (done.length + 1) cv7))
        have O8 := hide (ownsRow_kept O7.out KS (fun b hb e => by have := O7.out.lt b hb; omega))
        have B7 := hide (Kept.below_own (B := w.heap.size) (below_next B6.out (below_alloc w6 (.cells #[.int .i64 d] 2))) (by simp; omega) (ownsRow_mono (O6.out.alloc (.cells #[.int .i64 d] 2)) (by omega)) K7.out)
        have B8 := hide (B7.out.trans (KS.below (B := w.heap.size) B7.out.size (fun b hb e => by omega)))
        have z8 : w.heap.size + 3 ≤ (w7.setCell ⟨w.heap.size + 1, 1, none⟩ (.slice av7 (done.length + 1) cv7)).heap.size := by have h1 := K7.out.size; simp [World.setCell] at h1 ⊢; omega
        have hdl : (done ++ [d]).length = done.length + 1 := by simp
        generalize w7.setCell ⟨w.heap.size + 1, 1, none⟩ (.slice av7 (done.length + 1) cv7) = W8 at *
        clear KS K7 C6 X6 M7 O7 B7 B6 O6 M6 C5 M5 X5 O5 B5 cm5 cm6 cm7 e1 e3 q0 q1 q2 q3
        by_cases hrs : rs = []
        · have hdf : decide (rs ≠ []) = false := by simp [hrs]
          rw [hdf] at C8
          have HE := hide (show (d0 :: r1).mapM hexW = some (done ++ [d]) by rw [H.out.eq, hrs]; simp [HX.out])
          obtain ⟨⟨c0, c1⟩, c2, c3⟩ := C8.out
          obtain ⟨⟨p0, p1⟩, p2, p3⟩ := M8.out
          obtain ⟨⟨x0, x1⟩, x2, x3⟩ := X8.out
          go_wp2_with fail
          simp only [Exit.jump]
          refine bodyPost_ret (v := .agg #[.string (str n), .slice av7 (done.length + 1) cv7]) (by simp [results, Tryd.results18, go_sem, x0, x1]) rfl ⟨?_, (B8.out.setCell (p := ⟨w.heap.size, 0, none⟩) (Nat.le_refl _) _).setCell (p := ⟨w.heap.size, 1, none⟩) (Nat.le_refl _) _⟩
          rw [HE.out]
          refine ⟨av7, cv7, by rw [hdl], ?_⟩
          rw [hdl, List.map_append]
          exact ownsRow_mono (ownsRow_kept O8.out (Kept.two W8 w.heap.size 0 1 _ _) (fun b hb e => by have := O8.out.lt b hb; omega)) (by omega)
        · have hdf : decide (rs ≠ []) = true := by simp [hrs]
          rw [hdf] at C8
          obtain ⟨hja, -, hjc⟩ := cut_more H.out.cut hrs
          obtain ⟨⟨c0, c1⟩, c2, c3⟩ := C8.out
          have hjl := congrArg List.length hja
          simp only [List.length_append, List.length_cons] at hjl
          have HJ := hide (show AtL w W8 n (d0 :: r1) rs (done ++ [d]) av7 cv7 from ⟨X8.out, by rw [hdl]; exact M8.out, C8.out, by rw [hdl, List.map_append]; exact O8.out, B8.out, z8, hjc, by have := H.out.len; omega, hrs, by simp; omega, by rw [H.out.eq]; simp only [List.mapM_cons, HX.out]; cases rs.mapM hexW <;> simp⟩)
          clear hjl hja hjc
          go_wp2_with fail
          go_step3
          exact ⟨rfl, ⟨rs, done ++ [d], av7, cv7, _, _, _, _, _, _, _, _, _, _, _, _, _, _, _, _, _, HJ.out, rfl⟩⟩
  · rintro a' W ⟨ws, done, av, cv, u5, u6, u7, u8, u9, u10, u11, u12, u13, u14, u15, u16, u17, u18, u19, u20, u21, hL, rfl⟩
    have H := hide hL
    clear hL
    obtain ⟨w0, rs, rfl⟩ : ∃ w0 rs, ws = w0 :: rs := by
      cases ws with
      | nil => exact absurd rfl H.out.some
      | cons a b => exact ⟨a, b, rfl⟩
    obtain ⟨i0, hi0, hz0, hz1, hz2⟩ := info_parts Tryd.infoI64
    obtain ⟨⟨q0, q1⟩, q2, q3⟩ := H.out.m
    have hnum := H.out.num
    simp only [List.length_cons] at hnum
    have hsz := H.out.size
    have hm1 : done.length + 1 ≤ maxLen := by unfold maxLen; omega
    have hm2 : (done.length + 1) * 8 ≤ 140737488355328 := by omega
    have OL := hide H.out.own.lt
    cases hx : hexW w0 with
    | none =>
      have HX := hide hx
      have HE := hide (show (d0 :: r1).mapM hexW = none by rw [H.out.eq]; simp [List.mapM_cons, hx])
      clear hx
      go_wp2_with fail
      refine wp_region_any (by kernel_rfl) ?_
      change wpAny _ _ _ _ _ _ _ (World.drew _)
      refine wpAny_take (i := 0) (v := .pointer (some ⟨w.heap.size + 1, 1, none⟩)) rfl (by kernel_rfl) (by kernel_rfl) (by kernel_rfl) (fun _ _ _ h => h) (Or.inl ⟨by rfl, ?_⟩) ?_
      · intro w
        go_simp
      refine wpAny_ready (rs := [1, 2]) (by kernel_rfl) (by simp) ?_
      refine AllReady.cons rfl (fun K hK => ?_) ?_
      · go_simp
        refine hK _ _ ?_
        clear hK K
        refine wpAny_ready (rs := [2]) (by kernel_rfl) (by simp) ?_
        refine AllReady.cons rfl (fun K hK => ?_) AllReady.nil
        go_simp
        go_wp2_with fail
        refine (next_yes 32 (w.heap.size + 1 + 1) (joinC 32 (w0 :: rs)) w0 rs _ (H.out.c.below (Below.refl _ _).drew) H.out.cut H.out.len).mono ?_
        rintro r w5 ⟨rfl, c5, k5, z5⟩
        have cm5 := ((H.out.m.below (Below.refl _ _).drew).kept k5 (by omega)).1.2
        have B5 := hide (H.out.below.drew.trans (k5.below (B := w.heap.size) (by have := H.out.below.size; show w.heap.size ≤ W.heap.size; omega) (fun b hb e => by omega)))
        clear c5 k5 z5
        refine hK _ _ ?_
        clear hK K
        refine wpAny_ready (rs := [3]) (by kernel_rfl) (by simp) ?_
        refine AllReady.cons rfl (fun K hK => ?_) AllReady.nil
        go_simp
        go_wp2_with fail
        refine (readDigest_no w0 u vp w5 HX.out (fun w' hb => HG.out _ (below_next B5.out hb))).mono ?_
        rintro r w6 ⟨rfl, b6⟩
        refine ⟨rfl, ?_, below_next B5.out b6⟩
        rw [HE.out]
      refine AllReady.cons rfl (fun K hK => ?_) AllReady.nil
      go_simp
      go_wp2_with fail
      refine (next_yes 32 (w.heap.size + 1 + 1) (joinC 32 (w0 :: rs)) w0 rs _ (H.out.c.below (Below.refl _ _).drew) H.out.cut H.out.len).mono ?_
      rintro r w5 ⟨rfl, c5, k5, z5⟩
      have cm5 := ((H.out.m.below (Below.refl _ _).drew).kept k5 (by omega)).1.2
      have B5 := hide (H.out.below.drew.trans (k5.below (B := w.heap.size) (by have := H.out.below.size; show w.heap.size ≤ W.heap.size; omega) (fun b hb e => by omega)))
      clear c5 k5 z5
      refine hK _ _ ?_
      clear hK K
      refine wpAny_ready (rs := [1, 3]) (by kernel_rfl) (by simp) ?_
      refine AllReady.cons rfl (fun K hK => ?_) ?_
      · go_simp
        refine hK _ _ ?_
        clear hK K
        refine wpAny_ready (rs := [3]) (by kernel_rfl) (by simp) ?_
        refine AllReady.cons rfl (fun K hK => ?_) AllReady.nil
        go_simp
        go_wp2_with fail
        refine (readDigest_no w0 u vp w5 HX.out (fun w' hb => HG.out _ (below_next B5.out hb))).mono ?_
        rintro r w6 ⟨rfl, b6⟩
        refine ⟨rfl, ?_, below_next B5.out b6⟩
        rw [HE.out]
      refine AllReady.cons rfl (fun K hK => ?_) AllReady.nil
      go_simp
      go_wp2_with fail
      refine (readDigest_no w0 u vp w5 HX.out (fun w' hb => HG.out _ (below_next B5.out hb))).mono ?_
      rintro r w6 ⟨rfl, b6⟩
      refine ⟨rfl, ?_, below_next B5.out b6⟩
      rw [HE.out]
    | some d =>
      have HX := hide hx
      clear hx
      go_wp2_with fail
      go_region_law
        ((first
          | (have hO6 := O6; clear hO6; refine step_app (by rfl) (.tmp 13) (.tmp 16) 25 (by rfl) (w.heap.size + 3) 2 i0 (.int .i64 0) 1 8 Tryd.underlying25 hi0 hz0 hz1 hz2 rfl (by decide) (.slice av done.length cv) done.length (done.map (Value.int .i64)) (by rfl) (O6.out.alloc _) ⟨w6.heap.size, 0, none⟩ 1 1 [.int .i64 d] (by rfl) (by rfl) (news_int w6 d 2) (by intro u hu; simp at hu; subst hu; rfl) (done.length + 1) rfl hm1 hm2 (by simp; omega) ?_; intro av7 cv7 w7 hown7 hk7; have O7 := hide hown7; have K7 := hide hk7; have M7 := hide ((M6.out.below (below_alloc w6 (.cells #[.int .i64 d] 2))).kept hk7 (fun hq => by have := OL.out _ hq; omega)); obtain ⟨⟨-, e1⟩, -, e3⟩ := M7.out; clear hown7 hk7)
          | (go_simp; go_wp2_with (first | (go_at_call 35; refine (next_yes 32 (w.heap.size + 1 + 1) (joinC 32 (w0 :: rs)) w0 rs _ (H.out.c.below (Below.refl _ _).drew) H.out.cut H.out.len).mono ?_; rintro r w5 ⟨rfl, c5, k5, z5⟩; have C5 := hide c5; have M5 := hide ((H.out.m.below (Below.refl _ _).drew).kept k5 (by omega)); have X5 := hide ((H.out.x.below (Below.refl _ _).drew).kept k5 (by omega)); have O5 := hide (ownsRow_kept (ownsRow_below H.out.own (Below.refl _ _).drew) k5 (fun b hb e => by have := OL.out b hb; omega)); have B5 := hide (H.out.below.drew.trans (k5.below (B := w.heap.size) (by have := H.out.below.size; show w.heap.size ≤ W.heap.size; omega) (fun b hb e => by omega))); have z6 : w.heap.size + 3 ≤ w5.heap.size := (by rw [z5]; exact hsz); have cm5 := M5.out.1.2; clear c5 k5 z5) | (go_at_call 37; refine (readDigest_yes w0 d _ HX.out).mono ?_; rintro r w6 ⟨rfl, b6⟩; have C6 := hide (C5.out.below b6); have M6 := hide (M5.out.below b6); have X6 := hide (X5.out.below b6); have O6 := hide (ownsRow_below O5.out b6); have B6 := hide (below_next B5.out b6); have z7 : w.heap.size + 3 ≤ w6.heap.size := Nat.le_trans z6 b6.size; have cm6 := M6.out.1.2; have cm7 : ∀ o, (w6.alloc o).cell? ⟨w.heap.size + 1, 1, none⟩ = some (.slice av done.length cv) := (fun o => (M6.out.below (below_alloc w6 o)).1.2); clear b6)))))
      all_goals
        have KS : Kept (fun b => b = w.heap.size + 1) w7 (w7.setCell ⟨w.heap.size + 1, 1, none⟩ (.slice av7 (done.length + 1) cv7)) := Kept.setCell (S := fun b => b = w.heap.size + 1) (p := ⟨w.heap.size + 1, 1, none⟩) (Kept.refl _ _) (fun _ => rfl) _
        have C8 := hide (((C6.out.below (below_alloc w6 (.cells #[.int .i64 d] 2))).kept K7.out (fun hq => by have := OL.out _ hq; omega)).kept KS (by omega))
        have X8 := hide (((X6.out.below (below_alloc w6 (.cells #[.int .i64 d] 2))).kept K7.out (fun hq => by have := OL.out _ hq; omega)).kept KS (by omega))
        have M8 := hide (boxSnd M7.out (.slice av7 (done.length + 1) cv7))
        have O8 := hide (ownsRow_kept O7.out KS (fun b hb e => by have := O7.out.lt b hb; omega))
        have B7 := hide (Kept.below_own (B := w.heap.size) (below_next B6.out (below_alloc w6 (.cells #[.int .i64 d] 2))) (by simp; omega) (ownsRow_mono (O6.out.alloc (.cells #[.int .i64 d] 2)) (by omega)) K7.out)
        have B8 := hide (B7.out.trans (KS.below (B := w.heap.size) B7.out.size (fun b hb e => by omega)))
        have z8 : w.heap.size + 3 ≤ (w7.setCell ⟨w.heap.size + 1, 1, none⟩ (.slice av7 (done.length + 1) cv7)).heap.size := by have h1 := K7.out.size; simp [World.setCell] at h1 ⊢; omega
        have hdl : (done ++ [d]).length = done.length + 1 := by simp
        generalize w7.setCell ⟨w.heap.size + 1, 1, none⟩ (.slice av7 (done.length + 1) cv7) = W8 at *
        clear KS K7 C6 X6 M7 O7 B7 B6 O6 M6 C5 M5 X5 O5 B5 cm5 cm6 cm7 e1 e3 q0 q1 q2 q3
        by_cases hrs : rs = []
        · have hdf : decide (rs ≠ []) = false := by simp [hrs]
          rw [hdf] at C8
          have HE := hide (show (d0 :: r1).mapM hexW = some (done ++ [d]) by rw [H.out.eq, hrs]; simp [HX.out])
          obtain ⟨⟨c0, c1⟩, c2, c3⟩ := C8.out
          obtain ⟨⟨p0, p1⟩, p2, p3⟩ := M8.out
          obtain ⟨⟨x0, x1⟩, x2, x3⟩ := X8.out
          go_wp2_with fail
          simp only [Exit.jump]
          refine bodyPost_ret (v := .agg #[.string (str n), .slice av7 (done.length + 1) cv7]) (by simp [results, Tryd.results18, go_sem, x0, x1]) rfl ⟨?_, (B8.out.setCell (p := ⟨w.heap.size, 0, none⟩) (Nat.le_refl _) _).setCell (p := ⟨w.heap.size, 1, none⟩) (Nat.le_refl _) _⟩
          rw [HE.out]
          refine ⟨av7, cv7, by rw [hdl], ?_⟩
          rw [hdl, List.map_append]
          exact ownsRow_mono (ownsRow_kept O8.out (Kept.two W8 w.heap.size 0 1 _ _) (fun b hb e => by have := O8.out.lt b hb; omega)) (by omega)
        · have hdf : decide (rs ≠ []) = true := by simp [hrs]
          rw [hdf] at C8
          obtain ⟨hja, -, hjc⟩ := cut_more H.out.cut hrs
          obtain ⟨⟨c0, c1⟩, c2, c3⟩ := C8.out
          have hcm : leftM (w.heap.size + 1 + 1) W8 = (joinC 32 rs).length := by unfold leftM; rw [c0]; exact str_size _
          have hcw : leftM (w.heap.size + 1 + 1) W = (joinC 32 (w0 :: rs)).length := by unfold leftM; rw [H.out.c.1.1]; exact str_size _
          have hjl := congrArg List.length hja
          simp only [List.length_append, List.length_cons] at hjl
          have HJ := hide (show AtL w W8 n (d0 :: r1) rs (done ++ [d]) av7 cv7 from ⟨X8.out, by rw [hdl]; exact M8.out, C8.out, by rw [hdl, List.map_append]; exact O8.out, B8.out, z8, hjc, by have := H.out.len; omega, hrs, by simp; omega, by rw [H.out.eq]; simp only [List.mapM_cons, HX.out]; cases rs.mapM hexW <;> simp⟩)
          have HM := hide (show leftM (w.heap.size + 1 + 1) W8 < leftM (w.heap.size + 1 + 1) W by rw [hcm, hcw]; omega)
          clear hcm hcw hjl hja hjc
          go_wp2_with fail
          go_step3
          exact ⟨rfl, ⟨rs, done ++ [d], av7, cv7, _, _, _, _, _, _, _, _, _, _, _, _, _, _, _, _, _, HJ.out, rfl⟩, HM.out⟩
end Go.Proofs.YtmehngcbafdcgaaDoor
