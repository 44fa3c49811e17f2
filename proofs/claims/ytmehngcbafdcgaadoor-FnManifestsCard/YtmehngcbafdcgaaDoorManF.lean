/-
  The model's draw of a manifest's text out of a code.
-/
import Derived.Test.YtmehngcbafdcgaaDoorManE
import Derived.Test.YtmehngcbafdcgaaDoorRowB
namespace Go.Proofs.YtmehngcbafdcgaaDoor
open Go.RowKit Go.Maps
set_option linter.unusedVariables false

theorem image_len {n : Bs} {ds : List Int} (h : FitM n ds) : (imageB n ds).length ≤ 46 := by
  have := wordsM_bound h
  simp only [imageB, List.length_append, List.length_cons, List.length_nil]
  omega
/-- The state of the loop that draws until there is no fault. -/
structure AtP (w wr : World) (p b : Nat) (zs : List Int) (T : Int) (n : Bs) (ds : List Int) (av : Option Addr) (cv : Nat) : Prop where
  m : Box wr b (.string (str n)) (.slice av ds.length cv)
  rd : Reads .i64 wr av ds
  src : SrcX wr p zs T
  below : Below w.heap.size w wr
theorem AtP.next {w wr w' : World} {p b : Nat} {zs : List Int} {T : Int} {n : Bs} {ds : List Int} {av : Option Addr} {cv : Nat} (h : AtP w wr p b zs T n ds av cv) (hk : Below wr.heap.size wr w') : AtP w w' p b zs T n ds av cv :=
  ⟨h.m.below hk, h.rd.below hk, h.src.below hk, below_next h.below hk⟩
set_option maxRecDepth 100000 in
set_option maxHeartbeats 3200000 in
theorem drawParseManifest_any (a : Option Addr) (cap : Nat) (zs : List Int) (w : World) (h : Reads .u8 w a zs) (hu : U8 zs) (hl : zs.length ≤ 1048576) :
    Calls Tryd.prog 5 #[.slice a zs.length cap] w fun e w' => ∃ y : Bs, e = .returned (.string (str y)) ∧ y.length ≤ 1000 ∧ Below w.heap.size w w' := by
  have HR := hide h
  have HU := hide hu
  clear h hu
  go_enter Tryd.func5, Tryd.ntmps5
  go_wp2_with fail
  refine (l1Source_any a cap zs _ HR.out).mono ?_
  rintro e w1 ⟨rfl, s1, hz1, b1⟩
  have S1 := hide (show SrcX w1 w.heap.size zs 0 from ⟨0, by omega, by omega, s1⟩)
  have B1 := hide b1
  clear s1 b1
  go_wp2_with fail
  refine (l5Draw_e w.heap.size zs 0 _ S1.out HU.out (by omega) (by omega) (by omega)).mono ?_
  rintro e w2 ⟨n, ds, av, cv, rfl, hn, hd, ho2, s2, k2⟩
  have hk2 := k2.size
  have A2 := hide (below_alloc w2 (.cells #[.string (str n), .slice av ds.length cv] 27))
  have L2 := hide (show AtP w (w2.alloc (.cells #[.string (str n), .slice av ds.length cv] 27)) w.heap.size w2.heap.size zs 20 n ds av cv from
    ⟨Box.new w2 _ _ _, (ownInts_readsD ho2 rfl).below A2.out, (s2.below A2.out).mono (by omega), below_next (B1.out.trans (k2.below (B := w.heap.size) (by omega) (fun b hb e => by omega))) A2.out⟩)
  clear ho2 s2 k2 A2 S1 B1
  go_wp2_with fail
  have hb2 : w.heap.size < w2.heap.size := by omega
  generalize w2.alloc (.cells #[.string (str n), .slice av ds.length cv] 27) = W2 at *
  generalize w2.heap.size = b2 at *
  go_loopw [5] (fun i wr => ∃ (k : Nat) (n : Bs) (ds : List Int) (av : Option Addr) (cv : Nat), i = .int .i64 k ∧ k ≤ 4 ∧ n.length ≤ 5 ∧ ds.length ≤ 5 ∧ Hid (AtP w wr w.heap.size b2 zs (20 + 20 * k) n ds av cv)) (fun i _ => 4 - (intOf i).toNat)
  case atStart => exact ⟨0, n, ds, av, cv, rfl, by omega, hn, hd, hide (by simpa using L2.out)⟩
  case round =>
    clear hn hd L2
    obtain ⟨k, n, ds, av, cv, rfl, hk, hn, hd, H⟩ := hrel
    have hbl := H.out.m.1.1
    have hb3 := World.block_lt_of_cell? wr ⟨b2, 0, none⟩ hbl
    clear hbl
    have KC : Hid (∀ w' : World, Below wr.heap.size wr w' → w'.cell? ⟨b2, 0, none⟩ = some (.string (str n)) ∧ w'.cell? ⟨b2, 1, none⟩ = some (.slice av ds.length cv) ∧ w'.frozen? ⟨b2, 0, none⟩ = false ∧ w'.frozen? ⟨b2, 1, none⟩ = false) := hide (fun w' hb' => by
      obtain ⟨⟨m0, m1⟩, m2, m3⟩ := H.out.m.below hb'
      exact ⟨m0, m1, m2, m3⟩)
    have HM := hide (fun (u : World) (hb' : Below wr.heap.size wr u) => l5Manifest_any n ds av cv u (H.out.rd.below hb') (by omega) (by omega))
    obtain ⟨m0, m1, m2, m3⟩ := KC.out wr (Below.refl _ _)
    by_cases h4 : k < 4
    · have h4i : (k : Int) < 4 := by omega
      by_cases hf : manFault n ds = 0
      · rw [hf] at HM
        go_wp2_with fail
        refine (HM.out _ (Below.refl _ _)).mono ?_
        rintro r w3 ⟨rfl, hb3'⟩
        have B3 := hide hb3'
        obtain ⟨q0, q1, q2, q3⟩ := KC.out w3 hb3'
        clear hb3' m0 m1 m2 m3
        go_wp2_with fail
        refine (HM.out _ B3.out).mono ?_
        rintro r w4 ⟨rfl, hb4⟩
        have B4 := hide (below_next B3.out hb4)
        clear hb4 q0 q1 q2 q3
        obtain ⟨q0, q1, q2, q3⟩ := KC.out w4 B4.out
        have hfit := manFault_fit.1 hf
        have hil := image_len hfit
        go_wp2_with fail
        refine (l5Image_any n ds av cv w4 (H.out.rd.below B4.out) (by omega) (by omega) hfit.digs).mono ?_
        rintro r w5 ⟨rfl, hb5⟩
        have B5 := hide (below_next B4.out hb5)
        have L5 := hide (H.out.next B5.out)
        clear hb5 q0 q1 q2 q3
        go_wp2_with fail
        refine (l5Turn_e w.heap.size zs _ (imageB n ds) w5 L5.out.src HU.out (by omega) (by omega) (by omega)).mono ?_
        rintro r w6 ⟨y, rfl, hy, -, k6⟩
        have B6 := hide (L5.out.below.trans (k6.below (B := w.heap.size) L5.out.below.size (fun b hb e => by omega)))
        clear k6
        go_wp2_with fail
        go_ret
        exact ⟨y, rfl, by omega, B6.out⟩
      · generalize manFault n ds = F at *
        have hfb : (F != 0) = true := by simp; exact hf
        go_wp2_with fail
        refine (HM.out _ (Below.refl _ _)).mono ?_
        rintro r w3 ⟨rfl, hb3'⟩
        have B3 := hide hb3'
        have S3 := hide (H.out.src.below hb3')
        clear hb3' m0 m1 m2 m3
        go_wp2_with fail
        refine (l5Draw_e w.heap.size zs _ _ S3.out HU.out (by omega) (by omega) (by omega)).mono ?_
        rintro e w4 ⟨n4, ds4, av4, cv4, rfl, hn4, hd4, ho4, s4, k4⟩
        have X4 := hide ((H.out.m.below B3.out).kept k4 (by omega))
        have s34 := B3.out.size
        have B4 := hide ((below_next H.out.below B3.out).trans (k4.below (B := w.heap.size) (below_next H.out.below B3.out).size (fun b hb e => by omega)))
        have O4 := hide ho4
        have S4 := hide s4
        clear ho4 s4 k4 S3
        obtain ⟨⟨x0, x1⟩, x2, x3⟩ := X4.out
        go_wp2_with fail
        go_roundw
        case rel =>
          have KS := Kept.two w4 b2 0 1 (.string (str n4)) (.slice av4 ds4.length cv4)
          refine ⟨k + 1, n4, ds4, av4, cv4, by go_num, by omega, hn4, hd4, hide ⟨?_, ?_, ?_, ?_⟩⟩
          · exact boxSnd (boxFst X4.out _) _
          · exact ownInts_readsD (ownsRow_kept O4.out KS (fun b hq e => by have := (O4.out.lt b hq).1; omega)) rfl
          · exact (S4.out.kept KS (fun b hb e => by omega)).mono (by omega)
          · exact B4.out.trans (KS.below (B := w.heap.size) B4.out.size (fun b hb e => by omega))
        case measure => simp [intOf]; omega
    · have h4i : ¬ (k : Int) < 4 := by omega
      by_cases hf : manFault n ds = 0
      · rw [hf] at HM
        go_wp2_with fail
        refine (HM.out _ (Below.refl _ _)).mono ?_
        rintro r w4 ⟨rfl, hb4⟩
        have B4 := hide hb4
        clear hb4 m0 m1 m2 m3
        obtain ⟨q0, q1, q2, q3⟩ := KC.out w4 B4.out
        have hfit := manFault_fit.1 hf
        have hil := image_len hfit
        go_wp2_with fail
        refine (l5Image_any n ds av cv w4 (H.out.rd.below B4.out) (by omega) (by omega) hfit.digs).mono ?_
        rintro r w5 ⟨rfl, hb5⟩
        have B5 := hide (below_next B4.out hb5)
        have L5 := hide (H.out.next B5.out)
        clear hb5 q0 q1 q2 q3
        go_wp2_with fail
        refine (l5Turn_e w.heap.size zs _ (imageB n ds) w5 L5.out.src HU.out (by omega) (by omega) (by omega)).mono ?_
        rintro r w6 ⟨y, rfl, hy, -, k6⟩
        have B6 := hide (L5.out.below.trans (k6.below (B := w.heap.size) L5.out.below.size (fun b hb e => by omega)))
        clear k6
        go_wp2_with fail
        go_ret
        exact ⟨y, rfl, by omega, B6.out⟩
      · generalize manFault n ds = F at *
        have hfb : (F != 0) = true := by simp; exact hf
        go_wp2_with fail
        refine (HM.out _ (Below.refl _ _)).mono ?_
        rintro r w4 ⟨rfl, hb4⟩
        have B4 := hide (below_next H.out.below hb4)
        clear hb4 m0 m1 m2 m3
        go_wp2_with fail
        go_ret
        exact ⟨[], rfl, by simp, B4.out⟩
end Go.Proofs.YtmehngcbafdcgaaDoor
