/-
  The program's readManifest: it returns what it has read, or panics.
-/
import Derived.Test.YtmehngcbafdcgaaDoorRdP
import Derived.Test.YtmehngcbafdcgaaDoorLayN
import Derived.WalkMore
import Derived.ScopeJumps
namespace Go.Proofs.YtmehngcbafdcgaaDoor
open Go.RowKit
set_option linter.unusedVariables false
set_option maxRecDepth 100000

theorem trim_lib (t : Bs) : Lib.trimSuffix t [10] = trimL t := by
  unfold Lib.trimSuffix trimL Lib.hasSuffix
  by_cases h : t.getLast? = some 10
  · obtain ⟨ys, rfl⟩ := List.getLast?_eq_some_iff.1 h
    rw [if_pos h, if_pos (by rw [List.isSuffixOf_iff_suffix]; exact List.suffix_append _ _)]
    simp
  · rw [if_neg h, if_neg]
    rw [List.isSuffixOf_iff_suffix]
    rintro ⟨ys, rfl⟩
    exact h (by simp)
theorem trim_any (t : Bs) (w : World) (hl : t.length ≤ 2097152) : Calls Tryd.prog 34 #[.string (str t), .string ⟨#[10]⟩] w fun r w' => r = .returned (.string (str (trimL t))) ∧ w' = w := by
  have := Any.strings_TrimSuffix Tryd.trimA (str t) ⟨#[10]⟩ w (by rw [str_size]; omega)
  rw [str_data] at this
  have e : Lib.trimSuffix t [10] = trimL t := trim_lib t
  simp only [e] at this
  exact this

theorem trim_len (t : Bs) : (trimL t).length ≤ t.length := by unfold trimL; split <;> simp
theorem cloneM (s : ByteArray) (w : World) (hl : s.size ≤ 281474976710656) :
    Calls Tryd.prog 36 #[.string s] w fun e w' => e = .returned (.string s) ∧ Below w.heap.size w w' := by
  have H := hide (fun w => Any.stringslite_Clone Tryd.cloneA s w hl)
  go_enter Tryd.func36, Tryd.ntmps36
  go_wp2_with fail
  refine (H.out _).mono ?_
  rintro e w1 ⟨rfl, hb1⟩
  go_wp2_with fail
  go_ret
  exact ⟨rfl, hb1⟩

theorem boxOne {w : World} {B : Nat} {u v : Value} (h : Box w B u v) (u' : Value) : Box (w.setCell ⟨B, 0, none⟩ u') B u' v := by
  obtain ⟨⟨m0, m1⟩, m2, m3⟩ := h
  refine ⟨⟨?_, ?_⟩, ?_, ?_⟩
  · exact cell_set_same m0
  · rw [cell_set_other (by simp)]; exact m1
  · rw [World.frozen?_setCell]; exact m2
  · rw [World.frozen?_setCell]; exact m3
theorem boxSnd {w : World} {B : Nat} {u v : Value} (h : Box w B u v) (v' : Value) : Box (w.setCell ⟨B, 1, none⟩ v') B u v' := by
  obtain ⟨⟨m0, m1⟩, m2, m3⟩ := h
  refine ⟨⟨?_, ?_⟩, ?_, ?_⟩
  · rw [cell_set_other (by simp)]; exact m0
  · exact cell_set_same m1
  · rw [World.frozen?_setCell]; exact m2
  · rw [World.frozen?_setCell]; exact m3
theorem readP_one {t a : Bs} (h : cutC 32 (trimL t) = [a]) : readP t = none := by unfold readP; rw [h]
theorem readP_two {t a n : Bs} (h : cutC 32 (trimL t) = [a, n]) : readP t = none := by unfold readP; rw [h]
theorem readP_more {t a n d : Bs} {r : List Bs} (h : cutC 32 (trimL t) = a :: n :: d :: r) : readP t = ((d :: r).mapM hexW).map fun ds => (n, ds) := by unfold readP; rw [h]

set_option maxHeartbeats 3200000 in
theorem readManifest_one (t a0 : Bs) (u : TypeId) (vp : Value) (w : World) (hl : t.length ≤ 2097152) (hc0 : cutC 32 (trimL t) = [a0]) (hg : w.cell? ⟨0, 0, none⟩ = some (.iface u vp)) :
    Calls Tryd.prog 18 #[.string (str t)] w fun r w' => r = Dies u vp ∧ Below w.heap.size w w' := by
  have HG : Hid (∀ w' : World, Below w.heap.size w w' → w'.cell? ⟨0, 0, none⟩ = some (.iface u vp)) := hide (fun w' hb => (hb.cell (p := ⟨0, 0, none⟩) (World.block_lt_of_cell? w ⟨0, 0, none⟩ hg)).trans hg)
  clear hg
  have HTR := hide (fun u => trim_any t u hl)
  have hT := trim_len t
  generalize trimL t = T at *
  have HC0 := hide hc0
  clear hc0
  have X0 := hide (((Box.new w (.string ⟨#[]⟩) (.slice none 0 0) 27).below (below_alloc _ (.cells #[.string ⟨#[]⟩, .slice none 0 0] 27))).below (below_alloc _ (.cells #[.string (str T), .bool true] 63)))
  have M0 := hide ((Box.new (w.alloc (.cells #[.string ⟨#[]⟩, .slice none 0 0] 27)) (.string ⟨#[]⟩) (.slice none 0 0) 27).below (below_alloc _ (.cells #[.string (str T), .bool true] 63)))
  have C0 := hide (Box.new ((w.alloc (.cells #[.string ⟨#[]⟩, .slice none 0 0] 27)).alloc (.cells #[.string ⟨#[]⟩, .slice none 0 0] 27)) (.string (str T)) (.bool true) 63)
  have B0 := hide (below_next (below_next (below_alloc w (.cells #[.string ⟨#[]⟩, .slice none 0 0] 27)) (below_alloc _ (.cells #[.string ⟨#[]⟩, .slice none 0 0] 27))) (below_alloc _ (.cells #[.string (str T), .bool true] 63)))
  have hs1 : (w.alloc (.cells #[.string ⟨#[]⟩, .slice none 0 0] 27)).heap.size = w.heap.size + 1 := by simp
  have hs2 : ((w.alloc (.cells #[.string ⟨#[]⟩, .slice none 0 0] 27)).alloc (.cells #[.string ⟨#[]⟩, .slice none 0 0] 27)).heap.size = w.heap.size + 1 + 1 := by simp
  have hs3 : (((w.alloc (.cells #[.string ⟨#[]⟩, .slice none 0 0] 27)).alloc (.cells #[.string ⟨#[]⟩, .slice none 0 0] 27)).alloc (.cells #[.string (str T), .bool true] 63)).heap.size = w.heap.size + 3 := by simp
  rw [hs1] at M0
  rw [hs2] at C0
  have HS3 := hide hs3
  clear hs1 hs2 hs3
  go_enter Tryd.func18, Tryd.ntmps18
  go_wp2_with fail
  go_step3
  go_wp2_with fail
  refine (HTR.out _).mono ?_
  rintro r w0 ⟨rfl, rfl⟩
  go_wp2_with fail
  generalize ((w.alloc (.cells #[.string ⟨#[]⟩, .slice none 0 0] 27)).alloc (.cells #[.string ⟨#[]⟩, .slice none 0 0] 27)).alloc (.cells #[.string (str T), .bool true] 63) = W0 at *
  refine (next_yes 32 (w.heap.size + 1 + 1) T a0 _ W0 C0.out HC0.out (by omega)).mono ?_
  rintro r w1 ⟨rfl, c1, k1, z1⟩
  have C1 := hide c1
  have X1 := hide (X0.out.kept k1 (by omega))
  have M1 := hide (M0.out.kept k1 (by omega))
  have B1 := hide (B0.out.trans (k1.below (B := w.heap.size) (by have := B0.out.size; omega) (fun b hb e => by omega)))
  have HS1 := hide (z1.trans HS3.out)
  clear c1 k1 z1 X0 M0 C0 B0 HS3
  go_wp2_with fail
  refine (next_no (w.heap.size + 1 + 1) [] _ u vp w1 C1.out (HG.out _ B1.out)).mono ?_
  rintro r w2 ⟨rfl, rfl⟩
  exact ⟨rfl, rfl, B1.out⟩

set_option maxHeartbeats 3200000 in
theorem readManifest_two (t a0 n : Bs) (u : TypeId) (vp : Value) (w : World) (hl : t.length ≤ 2097152) (hc0 : cutC 32 (trimL t) = [a0, n]) (hg : w.cell? ⟨0, 0, none⟩ = some (.iface u vp)) :
    Calls Tryd.prog 18 #[.string (str t)] w fun r w' => r = Dies u vp ∧ Below w.heap.size w w' := by
  have HG : Hid (∀ w' : World, Below w.heap.size w w' → w'.cell? ⟨0, 0, none⟩ = some (.iface u vp)) := hide (fun w' hb => (hb.cell (p := ⟨0, 0, none⟩) (World.block_lt_of_cell? w ⟨0, 0, none⟩ hg)).trans hg)
  clear hg
  have HTR := hide (fun u => trim_any t u hl)
  have hT := trim_len t
  generalize trimL t = T at *
  have HC0 := hide hc0
  clear hc0
  have X0 := hide (((Box.new w (.string ⟨#[]⟩) (.slice none 0 0) 27).below (below_alloc _ (.cells #[.string ⟨#[]⟩, .slice none 0 0] 27))).below (below_alloc _ (.cells #[.string (str T), .bool true] 63)))
  have M0 := hide ((Box.new (w.alloc (.cells #[.string ⟨#[]⟩, .slice none 0 0] 27)) (.string ⟨#[]⟩) (.slice none 0 0) 27).below (below_alloc _ (.cells #[.string (str T), .bool true] 63)))
  have C0 := hide (Box.new ((w.alloc (.cells #[.string ⟨#[]⟩, .slice none 0 0] 27)).alloc (.cells #[.string ⟨#[]⟩, .slice none 0 0] 27)) (.string (str T)) (.bool true) 63)
  have B0 := hide (below_next (below_next (below_alloc w (.cells #[.string ⟨#[]⟩, .slice none 0 0] 27)) (below_alloc _ (.cells #[.string ⟨#[]⟩, .slice none 0 0] 27))) (below_alloc _ (.cells #[.string (str T), .bool true] 63)))
  have hs1 : (w.alloc (.cells #[.string ⟨#[]⟩, .slice none 0 0] 27)).heap.size = w.heap.size + 1 := by simp
  have hs2 : ((w.alloc (.cells #[.string ⟨#[]⟩, .slice none 0 0] 27)).alloc (.cells #[.string ⟨#[]⟩, .slice none 0 0] 27)).heap.size = w.heap.size + 1 + 1 := by simp
  have hs3 : (((w.alloc (.cells #[.string ⟨#[]⟩, .slice none 0 0] 27)).alloc (.cells #[.string ⟨#[]⟩, .slice none 0 0] 27)).alloc (.cells #[.string (str T), .bool true] 63)).heap.size = w.heap.size + 3 := by simp
  rw [hs1] at M0
  rw [hs2] at C0
  have HS3 := hide hs3
  clear hs1 hs2 hs3
  go_enter Tryd.func18, Tryd.ntmps18
  go_wp2_with fail
  go_step3
  go_wp2_with fail
  refine (HTR.out _).mono ?_
  rintro r w0 ⟨rfl, rfl⟩
  go_wp2_with fail
  generalize ((w.alloc (.cells #[.string ⟨#[]⟩, .slice none 0 0] 27)).alloc (.cells #[.string ⟨#[]⟩, .slice none 0 0] 27)).alloc (.cells #[.string (str T), .bool true] 63) = W0 at *
  refine (next_yes 32 (w.heap.size + 1 + 1) T a0 _ W0 C0.out HC0.out (by omega)).mono ?_
  rintro r w1 ⟨rfl, c1, k1, z1⟩
  have C1 := hide c1
  have X1 := hide (X0.out.kept k1 (by omega))
  have M1 := hide (M0.out.kept k1 (by omega))
  have B1 := hide (B0.out.trans (k1.below (B := w.heap.size) (by have := B0.out.size; omega) (fun b hb e => by omega)))
  have HS1 := hide (z1.trans HS3.out)
  clear c1 k1 z1 X0 M0 C0 B0 HS3
  have hd1 : decide ([n] ≠ ([] : List Bs)) = true := by simp
  obtain ⟨hjl, -, hjc⟩ := cut_more HC0.out (by simp)
  have hjb : (joinC 32 [n]).length ≤ 2097152 := by have h2 := congrArg List.length hjl; simp only [List.length_append, List.length_cons] at h2; omega
  have HJC := hide hjc
  clear hjl hjc
  rw [hd1] at C1
  go_wp2_with fail
  refine (next_yes 32 (w.heap.size + 1 + 1) _ n [] w1 C1.out HJC.out hjb).mono ?_
  rintro r w2 ⟨rfl, c2, k2, z2⟩
  have C2 := hide c2
  have X2 := hide (X1.out.kept k2 (by omega))
  have M2 := hide (M1.out.kept k2 (by omega))
  have B2 := hide (B1.out.trans (k2.below (B := w.heap.size) (by have := B1.out.size; omega) (fun b hb e => by omega)))
  have HS2 := hide (z2.trans HS1.out)
  have hnl : n.length ≤ 2097152 := by have h2 := cutC_each (m := 32) (joinC 32 [n]) n (by rw [HJC.out]; simp); omega
  clear c2 k2 z2 X1 M1 C1 B1 HS1
  go_wp2_with fail
  refine (cloneM (str n) w2 (by rw [str_size]; omega)).mono ?_
  rintro r w3 ⟨rfl, b3⟩
  have hw3 : w.heap.size + 3 ≤ w3.heap.size := by have h1 := HS2.out; have h2 := b3.size; omega
  have C3 := hide (C2.out.below b3)
  have X3 := hide (X2.out.below b3)
  have M3 := hide (M2.out.below b3)
  have B3 := hide (below_next B2.out b3)
  clear b3 X2 M2 C2 B2 HS2
  obtain ⟨⟨q0, q1⟩, q2, q3⟩ := M3.out
  go_wp2_with fail
  have K4 : Kept (fun x => x = w.heap.size + 1) w3 (w3.setCell ⟨w.heap.size + 1, 0, none⟩ (.string (str n))) := Kept.setCell (S := fun x => x = w.heap.size + 1) (p := ⟨w.heap.size + 1, 0, none⟩) (Kept.refl _ _) (fun _ => rfl) _
  have M4 := hide (boxOne M3.out (.string (str n)))
  have C4 := hide (C3.out.kept K4 (by omega))
  have X4 := hide (X3.out.kept K4 (by omega))
  have B4 := hide (B3.out.trans (K4.below (B := w.heap.size) (by have := B3.out.size; omega) (fun b hb e => by omega)))
  have hw4 : w.heap.size + 3 ≤ (w3.setCell ⟨w.heap.size + 1, 0, none⟩ (.string (str n))).heap.size := by simp [World.setCell]; omega
  generalize w3.setCell ⟨w.heap.size + 1, 0, none⟩ (.string (str n)) = W4 at *
  clear K4 M3 C3 X3 B3 q0 q1 q2 q3 hw3
  go_step3
  obtain ⟨⟨q0, q1⟩, q2, q3⟩ := M4.out
  have HNX := hide (fun (u' : World) (hu : Below W4.heap.size W4 u') => next_no (w.heap.size + 1 + 1) [] ⟨#[32]⟩ u vp u' (C4.out.below hu) (HG.out _ (below_next B4.out hu)))
  go_wp2_with fail
  refine wp_region_any (by kernel_rfl) ?_
  change wpAny _ _ _ _ _ _ _ (World.drew _)
  refine wpAny_take (i := 0) (v := .pointer (some ⟨w.heap.size + 1, 1, none⟩)) rfl (by kernel_rfl) (by kernel_rfl) (by kernel_rfl) (fun _ _ _ h => h) (Or.inl ⟨by rfl, ?_⟩) ?_
  · intro w
    go_simp
  refine wpAny_ready (rs := [1, 2]) (by kernel_rfl) (by simp) ?_
  refine AllReady.cons rfl (fun K hK => ?_) ?_
  · go_simp
    refine hK _ _ ?_
    clear hK K
    refine wpAny_ready (rs := [2]) (by kernel_rfl) (by simp) ?_
    refine AllReady.cons rfl (fun K hK => ?_) AllReady.nil
    go_simp
    go_wp2_with fail
    refine (HNX.out _ (Below.refl _ _).drew).mono ?_
    rintro r w5 ⟨rfl, rfl⟩
    exact ⟨rfl, rfl, B4.out.drew⟩
  refine AllReady.cons rfl (fun K hK => ?_) AllReady.nil
  go_simp
  go_wp2_with fail
  refine (HNX.out _ (Below.refl _ _).drew).mono ?_
  rintro r w5 ⟨rfl, rfl⟩
  exact ⟨rfl, rfl, B4.out.drew⟩
end Go.Proofs.YtmehngcbafdcgaaDoor
