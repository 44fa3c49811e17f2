/-
  The model's l5Parse where the line tells a file in four words, and at every line.
-/
import Derived.Test.YtlbccbikepkfiaaGreatDoorParO
namespace Go.Proofs.YtlbccbikepkfiaaGreatDoor
open Go.RowKit
set_option linter.unusedVariables false
set_option maxRecDepth 100000

theorem cut4_len {l a p n t : Bs} (hc : cutC 32 l = [a, p, n, t]) : t.length + 3 ≤ l.length := by
  obtain ⟨e1, -, e2⟩ := cut_more hc (by simp)
  obtain ⟨e3, -, e4⟩ := cut_more e2 (by simp)
  obtain ⟨e5, -, e6⟩ := cut_more e4 (by simp)
  have l1 := congrArg List.length e1
  have l2 := congrArg List.length e3
  have l3 := congrArg List.length e5
  have l4 : (joinC 32 [t]).length = t.length := rfl
  simp only [List.length_append, List.length_cons] at l1 l2 l3
  omega
set_option maxHeartbeats 12800000 in
theorem l5Parse_file (l a' p' n' t' : Bs) (w : World) (hl : l.length ≤ 1048576) (hf : Hid (cutC 32 l = [a', p', n', t'] ∧ kindS a' = 1)) : Calls Tryz.prog 50 #[.string (str l)] w (ResP (parE l) w) := by
  have X0 := hide (F4.new w (.string ⟨#[]⟩) (.int .i64 0) (.int .i64 0) (.slice none 0 0) 39)
  have B0 := hide (below_alloc w (.cells #[.string ⟨#[]⟩, .int .i64 0, .int .i64 0, .slice none 0 0] 39))
  have HCU := hide (l3CutC_any 32 (str l) (w.alloc (.cells #[.string ⟨#[]⟩, .int .i64 0, .int .i64 0, .slice none 0 0] 39)) (by rw [str_size]; omega))
  rw [str_data] at HCU
  have hs1 : (w.alloc (.cells #[.string ⟨#[]⟩, .int .i64 0, .int .i64 0, .slice none 0 0] 39)).heap.size = w.heap.size + 1 := by simp
  have HS1 := hide hs1
  clear hs1
  go_enter Tryz.func50, Tryz.ntmps50
  go_wp2_with fail
  refine HCU.out.mono ?_
  rintro r w1 ⟨v, rfl, hO, hb1⟩
  have X1 := hide (X0.out.below hb1)
  have B1 := hide (below_next B0.out hb1)
  have O1 := hide hO
  rw [HS1.out] at O1
  have hcl := cutC_length (m := 32) l
  have HEA := hide (cutC_each (m := 32) l)
  obtain ⟨ws, hws⟩ : ∃ ws, ws = cutC 32 l := ⟨_, rfl⟩
  have HW := hide hws.symm
  rw [← hws] at O1 hcl
  clear hO hb1 hws X0 B0 HCU HS1
  obtain ⟨va, vc, rfl⟩ := O1.out.shape
  obtain ⟨⟨x0, x1, x2, x3⟩, xf⟩ := X1.out
  have g0 := xf 0
  have g1 := xf 1
  have g2 := xf 2
  have g3 := xf 3
  by_cases h2 : ws.length < 2
  · have HN := hide (parS_unread (readS_few (l := l) (by rw [HW.out]; exact h2)))
    have i2 : ((ws.length : Nat) : Int) < 2 := by omega
    go_wp2_with fail
    rw [HN.out]
    exact bodyPost_ret (v := .tuple #[.agg #[.string ⟨#[]⟩, .int .i64 0, .int .i64 0, .slice none 0 0], .bool false]) (by simp [results, Tryz.results50, go_sem, x0, x1, x2, x3]) rfl ⟨rfl, below_four B1.out _ _ _ _⟩
  · have i2 : ¬ ((ws.length : Nat) : Int) < 2 := by omega
    have i1 : (1 : Int) < ((ws.length : Nat) : Int) := by omega
    have i0 : (0 : Int) < ((ws.length : Nat) : Int) := by omega
    obtain ⟨a, p, rest, hwe⟩ : ∃ a p rest, ws = a :: p :: rest := by
      match ws, h2 with
      | a :: p :: rest, _ => exact ⟨a, p, rest, rfl⟩
      | [_], h2 => simp at h2
      | [], h2 => simp at h2
    obtain ⟨b, off, hva, hb, hcc⟩ := O1.out.reads (by rw [hwe]; simp)
    subst hva
    have ha : w1.cell? ⟨b, off, none⟩ = some (.string (str a)) := by have := hcc 0 (by omega); rw [hwe] at this; simpa using this
    have hp : w1.cell? ⟨b, off + 1, none⟩ = some (.string (str p)) := by have := hcc 1 (by omega); rw [hwe] at this; simpa using this
    have HWE := hide (HW.out.trans hwe)
    have hpl : p.length ≤ 1048576 := Nat.le_trans (HEA.out p (by rw [HWE.out]; simp)) hl
    have hB1 : w.heap.size + 1 ≤ w1.heap.size := by have h1 := X1.out.four.lt; omega
    have hbB : w.heap.size + 1 ≤ b := (O1.out.lt b rfl).1
    have A2 := hide (below_next (below_alloc w1 (.cells #[.string (str p), .int .i64 0, .int .i64 0, .slice none 0 0] 39)) (below_alloc (w1.alloc (.cells #[.string (str p), .int .i64 0, .int .i64 0, .slice none 0 0] 39)) (.cells #[.string ⟨#[]⟩, .string ⟨#[102]⟩, .string ⟨#[100]⟩, .string ⟨#[119]⟩, .string ⟨#[111]⟩] 9)))
    have M2 := hide ((F4.new w1 (.string (str p)) (.int .i64 0) (.int .i64 0) (.slice none 0 0) 39).below (below_alloc (w1.alloc (.cells #[.string (str p), .int .i64 0, .int .i64 0, .slice none 0 0] 39)) (.cells #[.string ⟨#[]⟩, .string ⟨#[102]⟩, .string ⟨#[100]⟩, .string ⟨#[119]⟩, .string ⟨#[111]⟩] 9)))
    have KC : Hid (∀ k, k < 5 → ((w1.alloc (.cells #[.string (str p), .int .i64 0, .int .i64 0, .slice none 0 0] 39)).alloc (.cells #[.string ⟨#[]⟩, .string ⟨#[102]⟩, .string ⟨#[100]⟩, .string ⟨#[119]⟩, .string ⟨#[111]⟩] 9)).cell? ⟨w1.heap.size + 1, k, none⟩ = some (.string (str (kd k)))) := hide (fun k hk => by
      have : k = 0 ∨ k = 1 ∨ k = 2 ∨ k = 3 ∨ k = 4 := by omega
      rcases this with rfl | rfl | rfl | rfl | rfl <;> simp [kd, str])
    have hbs : ((w1.alloc (.cells #[.string (str p), .int .i64 0, .int .i64 0, .slice none 0 0] 39)).alloc (.cells #[.string ⟨#[]⟩, .string ⟨#[102]⟩, .string ⟨#[100]⟩, .string ⟨#[119]⟩, .string ⟨#[111]⟩] 9)).heap.size = w1.heap.size + 2 := by simp
    have X2 := hide (X1.out.below A2.out)
    have B2 := hide (below_next B1.out A2.out)
    have HC2 : Hid (∀ j, j < ws.length → ((w1.alloc (.cells #[.string (str p), .int .i64 0, .int .i64 0, .slice none 0 0] 39)).alloc (.cells #[.string ⟨#[]⟩, .string ⟨#[102]⟩, .string ⟨#[100]⟩, .string ⟨#[119]⟩, .string ⟨#[111]⟩] 9)).cell? ⟨b, off + j, none⟩ = some (.string (str (ws.getD j [])))) := hide (fun j hj => (A2.out.cell (p := ⟨b, off + j, none⟩) hb).trans (hcc j hj))
    have hea : w1.cell? ⟨b, off, none⟩ = some (.string (str a)) := ha
    have HCL : Hid (∀ j, j < rest.length + 2 → ((w1.alloc (.cells #[.string (str p), .int .i64 0, .int .i64 0, .slice none 0 0] 39)).alloc (.cells #[.string ⟨#[]⟩, .string ⟨#[102]⟩, .string ⟨#[100]⟩, .string ⟨#[119]⟩, .string ⟨#[111]⟩] 9)).cell? ⟨b, off + j, none⟩ = some (.string (str ((a :: p :: rest).getD j [])))) := hide (fun j hj => by have := HC2.out j (by rw [hwe]; simpa using hj); rwa [hwe] at this)
    have HWL := hide (show ws.length = rest.length + 2 by rw [hwe]; simp)
    clear hcc h2 O1 hwe HC2 HW hcl
    go_wp2_with fail
    generalize (w1.alloc (.cells #[.string (str p), .int .i64 0, .int .i64 0, .slice none 0 0] 39)).alloc (.cells #[.string ⟨#[]⟩, .string ⟨#[102]⟩, .string ⟨#[100]⟩, .string ⟨#[119]⟩, .string ⟨#[111]⟩] 9) = W2 at *
    obtain ⟨bm, hbm⟩ : ∃ bm, bm = w1.heap.size := ⟨_, rfl⟩
    try simp only [heapSize] at *
    rw [← hbm] at M2 KC hbs hB1 hb ⊢
    clear hbm X1 B1 A2 x0 x1 x2 x3 xf g0 g1 g2 g3 ha hp hea
    go_loopw [7] (fun i wr => ∃ k : Nat, 1 ≤ k ∧ k ≤ 5 ∧ i = .int .i64 k ∧ Hid (F4 wr bm (.string (str p)) (.int .i64 (if kindS a < k then kindS a else 0)) (.int .i64 0) (.slice none 0 0)) ∧ Hid (Kept (fun q => q = bm) W2 wr)) (fun i _ => 5 - (intOf i).toNat)
    case atStart => exact ⟨1, Nat.le_refl _, by omega, rfl, hide (by have h := (kindS_five a).1; have e : (if kindS a < ((1 : Nat) : Int) then kindS a else 0) = 0 := by (split <;> omega)
                                                                     rw [e]; exact M2.out), hide (Kept.refl _ _)⟩
    case round =>
      obtain ⟨k, hk1, hk5, rfl, HM, HK⟩ := hrel
      obtain ⟨m0, m1, m2, m3⟩ := HM.out.four
      have mf := HM.out.free 1
      by_cases hlt : k < 5
      · have hkc := (HK.out.cell (p := ⟨bm + 1, k, none⟩) (show bm + 1 < W2.heap.size by omega) (show ¬ bm + 1 = bm by omega)).trans (KC.out k hlt)
        have hac := (HK.out.cell (p := ⟨b, off, none⟩) (show b < W2.heap.size by omega) (show ¬ b = bm by omega)).trans (HCL.out 0 (by omega))
        simp only [List.getD_cons_zero] at hac
        have e1 : (0 : Int) ≤ (k : Int) := by omega
        have e2 : (k : Int) < 5 := by omega
        by_cases hka : kd k = a
        · have HKA := hide ((kd_kind hk1 hlt a).1 hka)
          have heq : ((str (kd k)).toList == (str a).toList) = true := by rw [hka]; simp
          clear hka
          go_wp2_with fail
          go_quiet (fail)
          go_wp2_with fail
          go_roundw
          case rel =>
            have e : (if kindS a < ((k + 1 : Nat) : Int) then kindS a else 0) = (k : Int) := by have := HKA.out; rw [if_pos (by omega)]; exact this
            exact ⟨k + 1, by omega, by omega, by go_num, hide (by rw [e]; exact (HM.out.drew _).set1 _), hide (Kept.setCell (S := fun q => q = bm) (p := ⟨bm, 1, none⟩) (HK.out.trans (keptDrew _ _ _)) (fun _ => rfl) _)⟩
          case measure => simp [intOf]; omega
        · have HKA := hide (fun h => hka ((kd_kind hk1 hlt a).2 h))
          have heq : ((str (kd k)).toList == (str a).toList) = false := strNo hka
          clear hka
          go_wp2_with fail
          go_quiet (fail)
          go_wp2_with fail
          go_roundw
          case rel =>
            have e : (if kindS a < ((k + 1 : Nat) : Int) then kindS a else 0) = (if kindS a < (k : Int) then kindS a else 0) := by
              have hne : ¬ kindS a = (k : Int) := HKA.out
              by_cases hq : kindS a < (k : Int)
              · rw [if_pos hq, if_pos (by omega)]
              · rw [if_neg hq, if_neg (by omega)]
            exact ⟨k + 1, by omega, by omega, by go_num, hide (by rw [e]; exact HM.out.drew _), hide (HK.out.trans (keptDrew _ _ _))⟩
          case measure => simp [intOf]; omega
      · have hk : k = 5 := by omega
        subst hk
        have e5 : (if kindS a < ((5 : Nat) : Int) then kindS a else 0) = kindS a := if_pos (kindS_five a).2
        rw [e5] at HM m1
        clear e5 hk1 hk5 hlt
        have X3 := hide (X2.out.kept HK.out (show ¬ w.heap.size = bm by omega))
        have B3 := hide (B2.out.trans (HK.out.below (B := w.heap.size) (by omega) (fun q hq e => by omega)))
        have hs3 := HK.out.size
        have hdl : ([] : List Int).length ≤ 1048576 := by simp
        have O3 : Hid (wr.ownsRow (w.heap.size + 1) 2 1 (.slice none ([] : List Int).length 0) ([] : List Int).length (([] : List Int).map (Value.int .i64))) := hide (World.ownsRow_nil _ _ _ _)
        by_cases hk1 : kindS a = 1
        · by_cases hr2 : rest.length = 2
          · obtain ⟨n, t, rfl⟩ : ∃ n t, rest = [n, t] := by
              match rest, hr2 with
              | [n, t], _ => exact ⟨n, t, rfl⟩
            have hcn := (HK.out.cell (p := ⟨b, off + 2, none⟩) (show b < W2.heap.size by omega) (show ¬ b = bm by omega)).trans (HCL.out 2 (by simp))
            have hct := (HK.out.cell (p := ⟨b, off + 3, none⟩) (show b < W2.heap.size by omega) (show ¬ b = bm by omega)).trans (HCL.out 3 (by simp))
            simp only [List.getD_cons_zero, List.getD_cons_succ] at hcn hct
            have hr4 : (((ws.length : Nat) : Int) == 4) = true := by have := HWL.out; simp at this; simp; omega
            have j2 : (2 : Int) < ((ws.length : Nat) : Int) := by have := HWL.out; simp at this; omega
            have j3 : (3 : Int) < ((ws.length : Nat) : Int) := by have := HWL.out; simp at this; omega
            have hnl : n.length ≤ 1048576 := Nat.le_trans (HEA.out n (by rw [HWE.out]; simp)) hl
            have htl : t.length ≤ 1048576 := Nat.le_trans (HEA.out t (by rw [HWE.out]; simp)) hl
            have HRF := hide (readS_file HWE.out hk1)
            have HB := hide hbB
            rw [hk1] at HM m1
            have hk1 := hide hk1
            clear hr2 O3 hdl
            have HNU := hide (fun u => l5Number_any n u (by omega))
            cases hv : numS n with
            | none =>
              rw [hv] at HNU
              have HR := hide (show parE l = none from parS_unread (by rw [HRF.out, hv]; rfl))
              clear hv
              obtain ⟨⟨x0, x1, x2, x3⟩, xf⟩ := X3.out
              have g0 := xf 0
              have g1 := xf 1
              have g2 := xf 2
              have g3 := xf 3
              go_wp2_with fail
              refine (HNU.out _).mono ?_
              rintro r wn ⟨rfl, hwn⟩
              have hwm := hwn.symm
              clear hwn
              subst hwm
              go_wp2_with fail
              rw [HR.out]
              exact bodyPost_ret (v := .tuple #[.agg #[.string ⟨#[]⟩, .int .i64 0, .int .i64 0, .slice none 0 0], .bool false]) (by simp [results, Tryz.results50, go_sem, x0, x1, x2, x3]) rfl ⟨rfl, below_four B3.out _ _ _ _⟩
            | some V =>
              rw [hv] at HNU
              have HRV := hide (show readS l = (chunkS t).map fun cs => ⟨p, 1, V, cs⟩ by rw [HRF.out, hv]; rfl)
              clear hv HRF
              have mf2 := HM.out.free 2
              go_wp2_with fail
              refine (HNU.out _).mono ?_
              rintro r wn ⟨rfl, hwn⟩
              have hwm := hwn.symm
              clear hwn
              subst hwm
              have K4 := keptCell wr bm 2 (.int .i64 V)
              have hct4 := (K4.cell (p := ⟨b, off + 3, none⟩) (show b < wr.heap.size by omega) (show ¬ b = bm by omega)).trans hct
              have M4 := hide (HM.out.set2 (.int .i64 V))
              have X4 := hide (X3.out.kept K4 (show ¬ w.heap.size = bm by omega))
              have B4 := hide (B3.out.trans (K4.below (B := w.heap.size) (by omega) (fun q hq e => by omega)))
              have hz4 : (wr.setCell ⟨bm, 2, none⟩ (.int .i64 V)).heap.size = wr.heap.size := by simp [World.setCell]
              have HCT := hide (fun u => l3CutC_any 44 (str t) u (by rw [str_size]; omega))
              rw [str_data] at HCT
              clear K4
              go_wp2_with fail
              generalize wr.setCell ⟨bm, 2, none⟩ (.int .i64 V) = W4 at *
              refine (HCT.out _).mono ?_
              rintro r w5 ⟨v5, rfl, hO5, hb5⟩
              have O5 := hide hO5
              have M5 := hide (M4.out.below hb5)
              have X5 := hide (X4.out.below hb5)
              have B5 := hide (below_next B4.out hb5)
              have hct5 := (hb5.cell (p := ⟨b, off + 3, none⟩) (show b < W4.heap.size by omega)).trans hct4
              have hs5 := hb5.size
              have hpcl := cutC_length (m := 44) t
              have hpne := cutC_ne 44 t
              obtain ⟨ps, hps⟩ : ∃ ps, ps = cutC 44 t := ⟨_, rfl⟩
              have HPS := hide hps
              rw [← hps] at O5 hpcl hpne
              clear hO5 hb5 hps HCT M4 X4 B4 hct4 hct hcn HM X3 B3 m0 m1 m2 m3 mf mf2 HK
              obtain ⟨pa, pc, rfl⟩ := O5.out.shape
              obtain ⟨pb, poff, hpa, hpb, hpcc⟩ := O5.out.reads hpne
              subst hpa
              have hpB : W4.heap.size ≤ pb := (O5.out.lt pb rfl).1
              have HPC := hide hpcc
              have hpl0 : 0 < ps.length := List.length_pos_iff.2 hpne
              obtain ⟨i0', hi0, hz0, hz1, hz2⟩ := info_parts Tryz.infoI64
              clear hpcc hpne O5
              go_wp2_with fail
              go_loopw [11, 12, 13] (fun i _ _ wr => ∃ (j : Nat) (done : List Int) (av : Option Addr) (cv : Nat), j ≤ ps.length ∧ done.length = j ∧ i = .int .i64 j ∧ Hid (t = [45] → j = 0) ∧ Hid ((ps.take j).mapM hexW = some done) ∧ Hid (F4 wr bm (.string (str p)) (.int .i64 1) (.int .i64 V) (.slice av j cv)) ∧ Hid (wr.ownsRow w5.heap.size 2 1 (.slice av j cv) j (done.map (Value.int .i64))) ∧ Hid (Kept (fun q => q = bm) w5 wr)) (fun i _ _ _ => ps.length - (intOf i).toNat)
              case atStart => exact ⟨0, [], none, 0, Nat.zero_le _, rfl, rfl, hide (fun _ => rfl), hide (by simp), M5, hide (World.ownsRow_nil _ _ _ _), hide (Kept.refl _ _)⟩
              case round =>
                obtain ⟨j, done, av, cv, hj, hdj, rfl, HJ0, HD, HM, HO, HK⟩ := hrel
                obtain ⟨m0, m1, m2, m3⟩ := HM.out.four
                have mf := HM.out.free 3
                have BW := hide (B5.out.trans (HK.out.below (B := w.heap.size) (by have := B5.out.size; omega) (fun q hq e => by omega)))
                have XW := hide (X5.out.kept HK.out (show ¬ w.heap.size = bm by omega))
                have htx := (HK.out.cell (p := ⟨b, off + 3, none⟩) (show b < w5.heap.size by omega) (show ¬ b = bm by omega)).trans hct5
                have OW := hide (ownsRow_mono HO.out (show w.heap.size + 1 ≤ w5.heap.size by omega))
                by_cases h45 : t = [45]
                · have hj0 : j = 0 := HJ0.out h45
                  subst hj0
                  have hd0 : done = [] := List.length_eq_zero_iff.1 hdj
                  subst hd0
                  have HRS := hide (show readS l = some ⟨p, 1, V, []⟩ by rw [HRV.out]; unfold chunkS; rw [if_pos h45]; rfl)
                  rw [h45, show str [45] = (⟨#[45]⟩ : ByteArray) from rfl] at htx
                  have hlt : (0 : Int) < (ps.length : Int) := by omega
                  have hdl : ([] : List Int).length ≤ 1048576 := by simp
                  have h45 := hide h45
                  clear m0 m1 m2 m3
                  obtain ⟨m0, m1, m2, m3⟩ := HM.out.four
                  go_wp2_with fail
                  refine (specEntryFault_any ⟨p, 1, V, []⟩ av cv _ wr (ownIntsR OW.out rfl) rfl hpl hdl).mono ?_
                  rintro r wf ⟨rfl, bf⟩
                  try clear i0
                  try clear i1
                  try clear i2
                  try clear j2
                  try clear j3
                  try clear hr4
                  try clear hct5
                  try clear htx
                  try clear hpcl
                  try clear hpl0
                  try clear hi0
                  try clear hz0
                  try clear hz1
                  try clear hz2
                  try clear d1
                  try clear d2
                  try clear hnl
                  try clear htl
                  try clear hs3
                  try clear hs5
                  try clear hz4
                  try clear hpB
                  try clear hpb
                  try clear hb
                  try clear hbs
                  try clear hng
                  try clear hlt
                  try clear hj
                  try clear hB1
                  try clear hcl
                  try clear e6
                  have XF := hide (XW.out.below bf)
                  have MF := hide (HM.out.below bf)
                  have OF := hide (ownsRow_below OW.out bf)
                  have BF := hide (below_next BW.out bf)
                  clear bf m0 m1 m2 m3
                  obtain ⟨m0, m1, m2, m3⟩ := MF.out.four
                  by_cases hf : entFault ⟨p, 1, V, []⟩ = 0
                  · have HFT := hide (entFault_fit.1 hf)
                    have HFF := hide hf
                    rw [hf]
                    clear hf
                    go_wp2_with fail
                    refine (l5Text_any ⟨p, 1, V, []⟩ av cv wf (ownIntsR OF.out rfl) HFT.out).mono ?_
                    rintro r wt ⟨rfl, bt⟩
                    have XT := hide (XF.out.below bt)
                    have MT := hide (MF.out.below bt)
                    have OT := hide (ownsRow_below OF.out bt)
                    have BT := hide (below_next BF.out bt)
                    clear bt m0 m1 m2 m3
                    obtain ⟨m0, m1, m2, m3⟩ := MT.out.four
                    obtain ⟨⟨x0, x1, x2, x3⟩, xf⟩ := XT.out
                    have g0 := xf 0
                    have g1 := xf 1
                    have g2 := xf 2
                    have g3 := xf 3
                    by_cases ht : textE ⟨p, 1, V, []⟩ = l
                    · have HR := hide (show parE l = some ⟨p, 1, V, []⟩ from parS_yes HRS.out HFF.out ht)
                      rw [ht]
                      clear ht
                      go_wp2_with fail
                      rw [HR.out]
                      refine bodyPost_ret (v := .tuple #[.agg #[.string (str p), .int .i64 1, .int .i64 V, .slice av ([] : List Int).length cv], .bool true]) (by simp [results, Tryz.results50, go_sem, x0, x1, x2, x3]) rfl ⟨⟨av, cv, rfl, ?_⟩, below_four BT.out _ _ _ _⟩
                      exact ownsRow_mono (ownsRow_kept OT.out (kept4 wt w.heap.size _ _ _ _) (fun q hq e => by have := OT.out.lt q hq; omega)) (by omega)
                    · have HR := hide (show parE l = none from parS_not HRS.out (.inr ht))
                      have hs0 := strNo ht
                      clear ht
                      go_wp2_with fail
                      rw [HR.out]
                      exact bodyPost_ret (v := .tuple #[.agg #[.string ⟨#[]⟩, .int .i64 0, .int .i64 0, .slice none 0 0], .bool false]) (by simp [results, Tryz.results50, go_sem, x0, x1, x2, x3]) rfl ⟨rfl, below_four BT.out _ _ _ _⟩
                  · have HR := hide (show parE l = none from parS_not HRS.out (.inl hf))
                    obtain ⟨⟨x0, x1, x2, x3⟩, xf⟩ := XF.out
                    have g0 := xf 0
                    have g1 := xf 1
                    have g2 := xf 2
                    have g3 := xf 3
                    generalize entFault ⟨p, 1, V, []⟩ = FF at *
                    have hfb : (FF != 0) = true := by simp; exact hf
                    clear hf
                    go_wp2_with fail
                    rw [HR.out]
                    exact bodyPost_ret (v := .tuple #[.agg #[.string ⟨#[]⟩, .int .i64 0, .int .i64 0, .slice none 0 0], .bool false]) (by simp [results, Tryz.results50, go_sem, x0, x1, x2, x3]) rfl ⟨rfl, below_four BF.out _ _ _ _⟩
                · have d1 := noD h45
                  have d2 := noDB h45
                  have HCS := hide (show chunkS t = ps.mapM hexW by unfold chunkS; rw [if_neg h45, HPS.out])
                  by_cases hlt : j < ps.length
                  · have hxj : ps[j]? = some (ps.getD j []) := by rw [List.getD_eq_getElem?_getD, List.getElem?_eq_getElem hlt]; rfl
                    have hcx := (HK.out.cell (p := ⟨pb, poff + j, none⟩) (show pb < w5.heap.size by omega) (show ¬ pb = bm by omega)).trans (HPC.out j hlt)
                    generalize ps.getD j [] = x at hxj hcx
                    have HXJ := hide hxj
                    clear hxj
                    have e1 : (0 : Int) ≤ (j : Int) := by omega
                    have e2 : (j : Int) < (ps.length : Int) := by omega
                    have HP := hide (fun u => l1ParseW x u)
                    have H45 := hide h45
                    clear h45
                    cases hx : hexW x with
                    | none =>
                      have HR := hide (show parE l = none from parS_unread (by rw [HRV.out, HCS.out, mapM_none (List.mem_of_getElem? HXJ.out) hx]; rfl))
                      rw [hx] at HP
                      clear hx
                      obtain ⟨⟨x0, x1, x2, x3⟩, xf⟩ := XW.out
                      have g0 := xf 0
                      have g1 := xf 1
                      have g2 := xf 2
                      have g3 := xf 3
                      go_wp2_with fail
                      refine (HP.out _).mono ?_
                      rintro r w6 ⟨rfl, hw6⟩
                      have hw7 := hw6.symm
                      clear hw6
                      subst hw7
                      go_wp2_with fail
                      rw [HR.out]
                      exact bodyPost_ret (v := .tuple #[.agg #[.string ⟨#[]⟩, .int .i64 0, .int .i64 0, .slice none 0 0], .bool false]) (by simp [results, Tryz.results50, go_sem, x0, x1, x2, x3]) rfl ⟨rfl, below_four BW.out _ _ _ _⟩
                    | some d =>
                      have HSN := hide (mapM_snoc HD.out HXJ.out hx)
                      rw [hx] at HP
                      clear hx
                      have hm1 : j + 1 ≤ maxLen := by unfold maxLen; omega
                      have hm2 : (j + 1) * 8 ≤ 140737488355328 := by omega
                      have hsz2 : w5.heap.size ≤ wr.heap.size := HK.out.size
                      go_wp2_with fail
                      refine (HP.out _).mono ?_
                      rintro r w6 ⟨rfl, hw6⟩
                      have hw7 := hw6.symm
                      clear hw6
                      subst hw7
                      have OL := hide HO.out.lt
                      go_wp2_with (at_builtin; refine wpList_append_one rfl (.tmp 89) (.tmp 91) 37 rfl w5.heap.size 2 i0' (.int .i64 0) 1 8 Tryz.underlying37 hi0 hz0 hz1 hz2 rfl (by decide) _ _ _ rfl HO.out rfl rfl (by intro u hu; simp at hu; subst hu; rfl) hm1 hm2 hsz2 ?_; intro v' w8 hown8 hkept; have O8 := hide hown8; have K8 := hide hkept; obtain ⟨av8, cv8, hv8⟩ := ownsRow_shape hown8; subst hv8; have M8 := hide (HM.out.kept hkept (fun hq => by have := OL.out _ hq; omega)); obtain ⟨q0, q1, q2, q3⟩ := M8.out.four; have qf := M8.out.free 3; clear hown8 hkept)
                      have M9 := hide (M8.out.set3 (.slice av8 (j + 1) cv8))
                      have O9 := hide (ownsRow_kept O8.out (keptCell w8 bm 3 (.slice av8 (j + 1) cv8)) (fun q hq e => by have := O8.out.lt q hq; omega))
                      have K9 := hide (Kept.setCell (S := fun q => q = bm) (p := ⟨bm, 3, none⟩) (HK.out.trans_own K8.out (fun q hq h => by have := OL.out q h; omega)) (fun _ => rfl) (.slice av8 (j + 1) cv8))
                      go_roundw
                      case rel => exact ⟨j + 1, done ++ [d], av8, cv8, by omega, by simp; omega, by go_num, hide (fun h => absurd h H45.out), HSN, M9, hide (by rw [List.map_append]; exact O9.out), K9⟩
                      case measure => simp [intOf]; omega
                  · have hje : j = ps.length := by omega
                    have HRS := hide (show readS l = some ⟨p, 1, V, done⟩ by rw [HRV.out, HCS.out]; have := HD.out; rw [hje, List.take_length] at this; rw [this]; rfl)
                    have hng : ¬ (j : Int) < (ps.length : Int) := by omega
                    have hdl : done.length ≤ 1048576 := by have h4 := cut4_len HWE.out; omega
                    subst hdj
                    clear m0 m1 m2 m3 hje
                    obtain ⟨m0, m1, m2, m3⟩ := HM.out.four
                    go_wp2_with fail
                    refine (specEntryFault_any ⟨p, 1, V, done⟩ av cv _ wr (ownIntsR OW.out rfl) rfl hpl hdl).mono ?_
                    rintro r wf ⟨rfl, bf⟩
                    try clear i0
                    try clear i1
                    try clear i2
                    try clear j2
                    try clear j3
                    try clear hr4
                    try clear hct5
                    try clear htx
                    try clear hpcl
                    try clear hpl0
                    try clear hi0
                    try clear hz0
                    try clear hz1
                    try clear hz2
                    try clear d1
                    try clear d2
                    try clear hnl
                    try clear htl
                    try clear hs3
                    try clear hs5
                    try clear hz4
                    try clear hpB
                    try clear hpb
                    try clear hb
                    try clear hbs
                    try clear hng
                    try clear hlt
                    try clear hj
                    try clear hB1
                    try clear hcl
                    try clear e6
                    have XF := hide (XW.out.below bf)
                    have MF := hide (HM.out.below bf)
                    have OF := hide (ownsRow_below OW.out bf)
                    have BF := hide (below_next BW.out bf)
                    clear bf m0 m1 m2 m3
                    obtain ⟨m0, m1, m2, m3⟩ := MF.out.four
                    by_cases hf : entFault ⟨p, 1, V, done⟩ = 0
                    · have HFT := hide (entFault_fit.1 hf)
                      have HFF := hide hf
                      rw [hf]
                      clear hf
                      go_wp2_with fail
                      refine (l5Text_any ⟨p, 1, V, done⟩ av cv wf (ownIntsR OF.out rfl) HFT.out).mono ?_
                      rintro r wt ⟨rfl, bt⟩
                      have XT := hide (XF.out.below bt)
                      have MT := hide (MF.out.below bt)
                      have OT := hide (ownsRow_below OF.out bt)
                      have BT := hide (below_next BF.out bt)
                      clear bt m0 m1 m2 m3
                      obtain ⟨m0, m1, m2, m3⟩ := MT.out.four
                      obtain ⟨⟨x0, x1, x2, x3⟩, xf⟩ := XT.out
                      have g0 := xf 0
                      have g1 := xf 1
                      have g2 := xf 2
                      have g3 := xf 3
                      by_cases ht : textE ⟨p, 1, V, done⟩ = l
                      · have HR := hide (show parE l = some ⟨p, 1, V, done⟩ from parS_yes HRS.out HFF.out ht)
                        rw [ht]
                        clear ht
                        go_wp2_with fail
                        rw [HR.out]
                        refine bodyPost_ret (v := .tuple #[.agg #[.string (str p), .int .i64 1, .int .i64 V, .slice av (done : List Int).length cv], .bool true]) (by simp [results, Tryz.results50, go_sem, x0, x1, x2, x3]) rfl ⟨⟨av, cv, rfl, ?_⟩, below_four BT.out _ _ _ _⟩
                        exact ownsRow_mono (ownsRow_kept OT.out (kept4 wt w.heap.size _ _ _ _) (fun q hq e => by have := OT.out.lt q hq; omega)) (by omega)
                      · have HR := hide (show parE l = none from parS_not HRS.out (.inr ht))
                        have hs0 := strNo ht
                        clear ht
                        go_wp2_with fail
                        rw [HR.out]
                        exact bodyPost_ret (v := .tuple #[.agg #[.string ⟨#[]⟩, .int .i64 0, .int .i64 0, .slice none 0 0], .bool false]) (by simp [results, Tryz.results50, go_sem, x0, x1, x2, x3]) rfl ⟨rfl, below_four BT.out _ _ _ _⟩
                    · have HR := hide (show parE l = none from parS_not HRS.out (.inl hf))
                      obtain ⟨⟨x0, x1, x2, x3⟩, xf⟩ := XF.out
                      have g0 := xf 0
                      have g1 := xf 1
                      have g2 := xf 2
                      have g3 := xf 3
                      generalize entFault ⟨p, 1, V, done⟩ = FF at *
                      have hfb : (FF != 0) = true := by simp; exact hf
                      clear hf
                      go_wp2_with fail
                      rw [HR.out]
                      exact bodyPost_ret (v := .tuple #[.agg #[.string ⟨#[]⟩, .int .i64 0, .int .i64 0, .slice none 0 0], .bool false]) (by simp [results, Tryz.results50, go_sem, x0, x1, x2, x3]) rfl ⟨rfl, below_four BF.out _ _ _ _⟩
          · have h1 := HWE.out
            rw [hf.out.1] at h1
            simp only [List.cons.injEq] at h1
            exact absurd (by rw [← h1.2.2]; rfl) hr2
        · have h1 := HWE.out
          rw [hf.out.1] at h1
          simp only [List.cons.injEq] at h1
          exact absurd (by rw [← h1.1]; exact hf.out.2) hk1
theorem l5Parse_any (l : Bs) (w : World) (hl : l.length ≤ 1048576) : Calls Tryz.prog 50 #[.string (str l)] w (ResP (parE l) w) := by
  by_cases h : ∃ a p n t, cutC 32 l = [a, p, n, t] ∧ kindS a = 1
  · obtain ⟨a, p, n, t, hf⟩ := h
    exact l5Parse_file l a p n t w hl (hide hf)
  · exact l5Parse_other l w hl (hide (fun a p n t hc hk => h ⟨a, p, n, t, hc, hk⟩))
end Go.Proofs.YtlbccbikepkfiaaGreatDoor
