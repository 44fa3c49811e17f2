/-
  The draws of FnTexts: bytes of a layer's text, and a layer.
-/
import Derived.Test.YtlbccbikepkfiaaGreatDoorTxtQ
import Derived.Test.YtlbccbikepkfiaaGreatDoorDrawI
namespace Go.Proofs.YtlbccbikepkfiaaGreatDoor
open Go.RowKit Go.Maps
set_option linter.unusedVariables false
set_option maxRecDepth 100000

theorem packL_snoc {es : List En} {k : Nat} {e : En} (he : es[k]? = some e) : packL (es.take (k + 1)) = packL (es.take k) ++ (textE e ++ [10]) := by
  rw [List.take_add_one, he]
  simp [packL]
theorem str_app (a b : Bs) : str a ++ str b = str (a ++ b) := by
  unfold str
  apply ByteArray.ext
  simp
theorem packL_len {es : List En} (h : Right es) : (packL es).length ≤ 732 := by
  rw [← layText_good (right_P.2 h)]
  unfold layText
  rw [if_pos (right_P.2 h)]
  have h1 := linesB_len es
  have h2 := h.len
  omega
theorem packL_part (es : List En) (m : Nat) : (packL (es.take m)).length ≤ (packL es).length := by
  have h : packL es = packL (es.take m) ++ packL (es.drop m) := by
    unfold packL
    rw [← List.flatten_append, ← List.map_append, List.take_append_drop]
  rw [h, List.length_append]
  omega
set_option maxHeartbeats 3200000 in
theorem l5Pack_any (a : Option Addr) (c n : Nat) (es : List En) (w : World) (h : RdE w a es) (hn : n = es.length) (hR : Right es) :
    Calls Tryz.prog 17 #[.slice a n c] w fun r w' => r = .returned (.string (str (packL es))) ∧ Below w.heap.size w w' := by
  subst hn
  have HR := hide h
  have HF := hide (right_fits hR)
  have hlen := hR.len
  have HPL := hide (packL_len hR)
  clear h hR
  go_enter Tryz.func17, Tryz.ntmps17
  go_wp2_with fail
  go_loopw [3, 4] (fun v i wr => ∃ k : Nat, k ≤ es.length ∧ i = .int .i64 k ∧ v = .string (str (packL (es.take k))) ∧ Hid (Below w.heap.size w wr)) (fun _ i _ => es.length - (intOf i).toNat)
  case atStart => exact ⟨0, Nat.zero_le _, rfl, rfl, hide (Below.refl _ _)⟩
  case round =>
    obtain ⟨k, hk, rfl, rfl, HW⟩ := hrel
    by_cases hlt : k < es.length
    · obtain ⟨b, off, e, x, cc, rfl, hb, he, c0, c1, c2, c3, hr⟩ := (HR.out.below HW.out).at hlt
      have HN := hide (packL_snoc he)
      have HT := hide (l5Text_any e x cc wr hr (HF.out e (List.mem_of_getElem? he)))
      have hq1 : (packL (es.take k)).length + (textE e).length ≤ 732 := by
        have h1 := packL_part es (k + 1)
        rw [HN.out] at h1
        have h2 := HPL.out
        simp only [List.length_append, List.length_cons, List.length_nil] at h1
        omega
      clear he hr
      generalize packL (es.take k) = P at *
      have z1 : ¬ 9223372036854775807 < (str P).size + (str (textE e)).size := by rw [str_size, str_size]; omega
      have z2 : ¬ 9223372036854775807 < (str P).size + (str (textE e)).size + 1 := by rw [str_size, str_size]; omega
      go_wp2_with fail
      refine HT.out.mono ?_
      rintro r w2 ⟨rfl, hb2⟩
      have B2 := hide (below_next HW.out hb2)
      clear hb2 c0 c1 c2 c3
      go_wp2_with fail
      go_roundw
      case rel => exact ⟨k + 1, by omega, by go_num, by rw [HN.out, ← List.append_assoc, ← str_app, ← str_app]; rfl, B2⟩
      case measure => simp [intOf]; omega
    · have HE := hide (show es.take k = es from List.take_of_length_le (by omega))
      go_wp2_with fail
      go_ret
      exact ⟨by rw [HE.out]; rfl, HW.out⟩
set_option maxHeartbeats 1600000 in
theorem drawPackLayer_any (a : Option Addr) (cap : Nat) (zs : List Int) (w : World) (h : Reads .u8 w a zs) (hu : U8 zs) (hl : zs.length ≤ 1048576) :
    Calls Tryz.prog 9 #[.slice a zs.length cap] w fun r w' => ∃ (es : List En) (av : Option Addr) (cv : Nat), r = .returned (.slice av es.length cv) ∧ GoodH es ∧ es.length ≤ 13 ∧ SmallE es ∧ RdE w' av es ∧ es.length ≤ cv ∧ Below w.heap.size w w' := by
  have HR := hide h
  have HU := hide hu
  clear h hu
  go_enter Tryz.func9, Tryz.ntmps9
  go_wp2_with fail
  refine (l1Source_any a cap zs _ HR.out).mono ?_
  rintro r w1 ⟨rfl, s1, z1, b1⟩
  have S1 := hide (show SrcX w1 w.heap.size zs 0 from ⟨0, by decide, by decide, s1⟩)
  have B1 := hide b1
  clear s1 b1
  go_wp2_with fail
  refine (bentLay_e w.heap.size zs 0 _ S1.out HU.out (by decide) (by omega)).mono ?_
  rintro r w2 ⟨es, av, cv, rfl, hgd, hlen, hsm, hG, s2, k2⟩
  have hcap : es.length ≤ cv := by
    by_cases h0 : 0 < es.length
    · obtain ⟨g, -, hc⟩ := hG.addr rfl (.inl h0)
      exact hc
    · omega
  have H1 := hide hgd
  have H2 := hide hsm
  have H3 := hide hG.rd
  have B2 := hide (B1.out.trans (k2.below (B := w.heap.size) B1.out.size (fun b hb e => by omega)))
  clear hgd hsm hG s2 k2 S1 B1
  go_wp2_with fail
  go_ret
  exact ⟨es, av, cv, rfl, H1.out, hlen, H2.out, H3.out, hcap, B2.out⟩
theorem rdB_row {w : World} {g c : Nat} {zs : List Int} (h : RowB w g c zs) : RdB w (some ⟨g, 0, none⟩) zs :=
  Or.inr ⟨g, 0, rfl, fun _ => h.lt, fun i hi => by rw [Nat.zero_add]; exact h.cell hi⟩
set_option maxHeartbeats 3200000 in
theorem drawParseLayer_any (a : Option Addr) (cap : Nat) (zs : List Int) (w : World) (h : Reads .u8 w a zs) (hu : U8 zs) (hl : zs.length ≤ 1048576) :
    Calls Tryz.prog 5 #[.slice a zs.length cap] w fun r w' => ∃ (ys : List Int) (av : Option Addr) (cv : Nat), r = .returned (.slice av ys.length cv) ∧ RdB w' av ys ∧ ys.length ≤ 1000 ∧ Below w.heap.size w w' := by
  have HR := hide h
  have HU := hide hu
  clear h hu
  have hmk : ∀ w : World, Sem.run Tryz.prog (Instr.makeSlice 22 (.int .i64 601) (.int .i64 601)) w = .ok (.slice (some ⟨w.heap.size, 0, none⟩) 601 601) (w.alloc (.cells (madeCells #[.int .u8 0] 601) 5)) := run_make_row' (P := Tryz.prog) 22 5 (.int .u8 0) 1 Tryz.underlying22 Tryz.infoU8 rfl .i64 .i64 601 (by omega) (by omega)
  go_enter Tryz.func5, Tryz.ntmps5
  go_wp2_with fail
  refine (l1Source_any a cap zs _ HR.out).mono ?_
  rintro r w1 ⟨rfl, s1, z1, b1⟩
  have S1 := hide (show SrcX w1 w.heap.size zs 0 from ⟨0, by decide, by decide, s1⟩)
  have B1 := hide b1
  clear s1 b1
  go_wp2_with fail
  refine (right_e w.heap.size zs 0 _ S1.out HU.out (by decide) (by omega)).mono ?_
  rintro r w2 ⟨es, av, cv, rfl, hRi, hG, s2, k2⟩
  have HRi := hide hRi
  have R2 := hide hG.rd
  have S2 := hide s2
  have B2 := hide (B1.out.trans (k2.below (B := w.heap.size) B1.out.size (fun b hb e => by omega)))
  clear hRi hG s2 k2 S1 B1
  go_wp2_with fail
  refine (l5Pack_any av cv es.length es w2 R2.out rfl HRi.out).mono ?_
  rintro r w3 ⟨rfl, hb3⟩
  have hpl := packL_len HRi.out
  have S3 := hide (S2.out.below hb3)
  have B3 := hide (below_next B2.out hb3)
  clear hb3 S2 B2 R2
  generalize packL es = P at *
  go_wp2_with fail
  refine (l5Turn_e w.heap.size zs _ P _ S3.out HU.out (by omega) (by omega) (by omega)).mono ?_
  rintro r w4 ⟨y, rfl, hy, s4, k4⟩
  have S4 := hide s4
  have B4 := hide (B3.out.trans (k4.below (B := w.heap.size) B3.out.size (fun b hb e => by omega)))
  clear s4 k4 S3 B3
  go_wp2_with fail
  refine (chance_e w.heap.size zs _ 40 _ S4.out HU.out (by omega) (by decide) (by decide) (by omega)).mono ?_
  rintro r w5 ⟨q, rfl, s5, k5⟩
  have B5 := hide (B4.out.trans (k5.below (B := w.heap.size) B4.out.size (fun b hb e => by omega)))
  clear s5 k5 S4 B4
  cases q
  · have hsz := str_size y
    have hcv := run_bytes_of_string (P := Tryz.prog) w5 9 22 5 (str y) Tryz.underlying9 Tryz.underlying22 Tryz.underlying5
    have hge := grownCap_ge w5 (str y).size 0 5
    have hle := grownCap_le_maxLen w5 (str y).size 0 5 (by rw [hsz]; unfold maxLen; omega)
    generalize grownCap w5 (str y).size 0 5 = C at *
    rw [hsz] at hge hcv
    have RB := hide (rdB_row (RowB.new w5 y C hge hle))
    have HNL := hide (numsB_len y)
    have B6 := hide (show Below w.heap.size w (w5.drew.alloc (.cells (bytesRow (str y) C) 5 ((bytesRow (str y) C).size, (bytesRow (str y) C).size + 1))) from below_next B5.out.drew (below_alloc _ _))
    go_wp2_with fail
    go_ret
    exact ⟨numsB y, _, C, by rw [HNL.out]; rfl, RB.out, by rw [HNL.out]; omega, B6.out⟩
  · have B6 := hide (below_next B5.out (below_alloc w5 (.cells (madeCells #[.int .u8 0] 601) 5)))
    have RZ : Hid (RdB (w5.alloc (.cells (madeCells #[.int .u8 0] 601) 5)) (some ⟨w5.heap.size, 0, none⟩) (List.replicate 601 0)) := hide (Or.inr ⟨w5.heap.size, 0, rfl, fun _ => by simp, fun i hi => by
      rw [Nat.zero_add, (World.rowIs_made w5 (.int .u8 0) 601 5).cell (by simpa using hi)]
      have h9 : (List.replicate 601 (0 : Int)).getD i 0 = 0 := by rw [List.getD_eq_getElem?_getD, List.getElem?_replicate]; split <;> rfl
      rw [h9]⟩)
    have HL6 := hide (show (List.replicate 601 (0 : Int)).length = 601 by simp)
    generalize List.replicate 601 (0 : Int) = ys at *
    go_wp2_with fail
    go_ret
    exact ⟨ys, _, 601, by rw [HL6.out]; rfl, RZ.out, by rw [HL6.out]; decide, B6.out⟩
end Go.Proofs.YtlbccbikepkfiaaGreatDoor
