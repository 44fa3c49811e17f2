/-
  The chunks of bytes are put: contracts of the model's and the program's PutBytes.
-/
import Derived.Test.YtdebojhginiihaaMany
namespace Go.Proofs.Ytdebojhginiihaa
open Go.RowKit Go.Maps
set_option linter.unusedVariables false

theorem Holds.more {w : World} {b N N' : Nat} {L : List Ch} {T : Nat} (h : Holds w b N L T) (hN : N ≤ N') : Holds w b N' L T := by
  obtain ⟨Dt, A, C, h1, r⟩ := h
  exact ⟨Dt, A, C, h1.mono hN, r⟩

/-- What PutBytes answers of a list without fault: its code and its chunks. -/
def resS (o : Option St) : Int × St := match o with | none => (2, (fun _ => 0, fun _ => [], 0)) | some t => (0, t)

set_option maxRecDepth 100000 in
set_option maxHeartbeats 800000 in
theorem specBytes_bad (a : Option Addr) (c n : Nat) (D : Nat → Int) (P : Nat → List Int) (a2 : Option Addr) (n2 c2 : Nat) (w : World) (h : RdC w a D P n) (hn : n ≤ 1048576) (hP : ∀ i, i < n → U8 (P i) ∧ (P i).length ≤ 1048576) (hF : fault D P n ≠ 0) :
    Calls Try.prog 25 #[.slice a n c, .slice a2 n2 c2] w (ResC (fault D P n) D P 0 w) := by
  have HC := hide (specFault_any a c n D P (w.alloc (.cells #[.int .i64 0, .slice none 0 0] 45)) (h.below (below_alloc _ _)) hn hP)
  generalize fault D P n = F at *
  have hne : (F != 0) = true := by simpa using hF
  clear h hP hF
  go_enter Try.func25, Try.ntmps25
  go_wp2_with fail
  refine HC.out.mono ?_
  rintro e w1 ⟨rfl, b1⟩
  obtain ⟨⟨q0, q1⟩, q2, q3⟩ := (Box.new w (.int .i64 0) (.slice none 0 0) 45).below b1
  have B1 := hide (below_next (below_alloc w (.cells #[.int .i64 0, .slice none 0 0] 45)) b1)
  clear b1 HC
  go_wp2_with fail
  exact bodyPost_ret (v := .agg #[.int .i64 F, .slice none 0 0]) (by simp [results, Try.results25, go_sem, q0, q1]) rfl (ResC.no ((B1.out.setCell (Nat.le_refl _) _).setCell (Nat.le_refl _) _))

set_option maxRecDepth 100000 in
set_option maxHeartbeats 800000 in
theorem specBytes_big (a : Option Addr) (c n : Nat) (D : Nat → Int) (P : Nat → List Int) (a2 : Option Addr) (n2 c2 : Nat) (w : World) (h : RdC w a D P n) (hn : n ≤ 1048576) (hP : ∀ i, i < n → U8 (P i) ∧ (P i).length ≤ 1048576) (hF : fault D P n = 0) (hbig : 24 < n2) (hl : n2 ≤ 1048576) :
    Calls Try.prog 25 #[.slice a n c, .slice a2 n2 c2] w (ResC 2 D P 0 w) := by
  have hfl := specFault_any a c n D P (w.alloc (.cells #[.int .i64 0, .slice none 0 0] 45)) (h.below (below_alloc _ _)) hn hP
  rw [hF] at hfl
  have HC := hide hfl
  have hb : (24 : Int) < (n2 : Int) := by omega
  clear h hP hF hfl
  go_enter Try.func25, Try.ntmps25
  go_wp2_with fail
  refine HC.out.mono ?_
  rintro e w1 ⟨rfl, b1⟩
  obtain ⟨⟨q0, q1⟩, q2, q3⟩ := (Box.new w (.int .i64 0) (.slice none 0 0) 45).below b1
  have B1 := hide (below_next (below_alloc w (.cells #[.int .i64 0, .slice none 0 0] 45)) b1)
  clear b1 HC
  go_wp2_with fail
  exact bodyPost_ret (v := .agg #[.int .i64 2, .slice none 0 0]) (by simp [results, Try.results25, go_sem, q0, q1]) rfl (ResC.no ((B1.out.setCell (Nat.le_refl _) _).setCell (Nat.le_refl _) _))

set_option maxRecDepth 100000 in
set_option maxHeartbeats 1600000 in
theorem specBytes_ok (a : Option Addr) (c n : Nat) (D : Nat → Int) (P : Nat → List Int) (a2 : Option Addr) (c2 : Nat) (zs : List Int) (w : World) (h : RdC w a D P n) (hn : n ≤ 1048576) (hP : ∀ i, i < n → U8 (P i) ∧ (P i).length ≤ 1048576) (hF : fault D P n = 0) (h2 : Reads .u8 w a2 zs) (hu : U8 zs) (hcap : zs.length ≤ c2) (hl : zs.length ≤ 24) (q : Int) (t : St) (hres : resS (runS (D, P, n) (piece zs) (cut zs).length) = (q, t)) :
    Calls Try.prog 25 #[.slice a n c, .slice a2 zs.length c2] w (ResC q t.1 t.2.1 t.2.2 w) := by
  have hfl := specFault_any a c n D P (w.alloc (.cells #[.int .i64 0, .slice none 0 0] 45)) (h.below (below_alloc _ _)) hn hP
  rw [hF] at hfl
  have HRt := hide (fault_zero hF)
  have HC := hide hfl
  have HA := hide h
  have HR := hide h2
  have HU := hide hu
  have hb : ¬ (24 : Int) < (zs.length : Int) := by omega
  have HRes := hide hres
  clear h hP hF hfl h2 hu hres
  go_enter Try.func25, Try.ntmps25
  go_wp2_with fail
  refine HC.out.mono ?_
  rintro e w1 ⟨rfl, b1⟩
  have X1 := hide ((Box.new w (.int .i64 0) (.slice none 0 0) 45).below b1)
  have hs1 : w.heap.size < w1.heap.size := by have := b1.size; simp at this; omega
  have B1 := hide (below_next (below_alloc w (.cells #[.int .i64 0, .slice none 0 0] 45)) b1)
  clear b1 HC
  go_wp2_with fail
  refine (l2Bytes_any a c n D P a2 c2 zs w1 (HA.out.below B1.out) HRt.out (HR.out.below B1.out) HU.out hcap (by omega)).mono ?_
  generalize runS (D, P, n) (piece zs) (cut zs).length = o at *
  cases o with
  | none =>
    obtain ⟨rfl, rfl⟩ : (2 : Int) = q ∧ ((fun _ => 0, fun _ => [], 0) : St) = t := by have := HRes.out; simpa [resS] using this
    rintro e w2 ⟨he, b2⟩
    obtain rfl : e = _ := he
    obtain ⟨⟨q0, q1⟩, q2, q3⟩ := X1.out.below b2
    have B2 := hide (below_next B1.out b2)
    clear b2 X1
    go_wp2_with fail
    exact bodyPost_ret (v := .agg #[.int .i64 2, .slice none 0 0]) (by simp [results, Try.results25, go_sem, q0, q1]) rfl (ResC.no ((B2.out.setCell (Nat.le_refl _) _).setCell (Nat.le_refl _) _))
  | some t' =>
    obtain ⟨rfl, rfl⟩ : (0 : Int) = q ∧ t' = t := by have := HRes.out; simpa [resS] using this
    rintro e w2 ⟨⟨g, cv, rfl, hcv, hR2, hG⟩, b2⟩
    have HG := hide hG
    obtain ⟨⟨q0, q1⟩, q2, q3⟩ := X1.out.below b2
    have B2 := hide (below_next B1.out b2)
    clear b2 X1 hG
    go_wp2_with fail
    exact bodyPost_ret (v := .agg #[.int .i64 0, .slice (some ⟨g, 0, none⟩) t'.2.2 cv]) (by simp [results, Try.results25, go_sem, q0, q1]) rfl (ResC.box HG.out (by omega) B2.out)

set_option maxRecDepth 100000 in
set_option maxHeartbeats 800000 in
theorem implBytes_bad (a : Option Addr) (c n : Nat) (D : Nat → Int) (P : Nat → List Int) (a2 : Option Addr) (n2 c2 : Nat) (w : World) (h : RdC w a D P n) (hn : n ≤ 1048576) (hP : ∀ i, i < n → U8 (P i) ∧ (P i).length ≤ 1048576) (hF : fault D P n ≠ 0) :
    Calls Try.prog 24 #[.slice a n c, .slice a2 n2 c2] w (ResC (fault D P n) D P 0 w) := by
  have HC := hide (implFault_any a c n D P (w.alloc (.cells #[.int .i64 0, .slice none 0 0] 45)) (h.below (below_alloc _ _)) hn hP)
  generalize fault D P n = F at *
  have hne : (F != 0) = true := by simpa using hF
  clear h hP hF
  go_enter Try.func24, Try.ntmps24
  go_wp2_with fail
  refine HC.out.mono ?_
  rintro e w1 ⟨rfl, b1⟩
  obtain ⟨⟨q0, q1⟩, q2, q3⟩ := (Box.new w (.int .i64 0) (.slice none 0 0) 45).below b1
  have B1 := hide (below_next (below_alloc w (.cells #[.int .i64 0, .slice none 0 0] 45)) b1)
  clear b1 HC
  go_wp2_with fail
  exact bodyPost_ret (v := .agg #[.int .i64 F, .slice none 0 0]) (by simp [results, Try.results24, go_sem, q0, q1]) rfl (ResC.no ((B1.out.setCell (Nat.le_refl _) _).setCell (Nat.le_refl _) _))

set_option maxRecDepth 100000 in
set_option maxHeartbeats 800000 in
theorem implBytes_big (a : Option Addr) (c n : Nat) (D : Nat → Int) (P : Nat → List Int) (a2 : Option Addr) (c2 : Nat) (zs : List Int) (w : World) (h : RdC w a D P n) (hn : n ≤ 1048576) (hP : ∀ i, i < n → U8 (P i) ∧ (P i).length ≤ 1048576) (hF : fault D P n = 0) (hbig : 24 < zs.length) (hl : zs.length ≤ 1048576) :
    Calls Try.prog 24 #[.slice a n c, .slice a2 zs.length c2] w (ResC 2 D P 0 w) := by
  have hfl := implFault_any a c n D P (w.alloc (.cells #[.int .i64 0, .slice none 0 0] 45)) (h.below (below_alloc _ _)) hn hP
  rw [hF] at hfl
  have HC := hide hfl
  clear h hP hF hfl
  go_enter Try.func24, Try.ntmps24
  go_wp2_with fail
  refine HC.out.mono ?_
  rintro e w1 ⟨rfl, b1⟩
  have X1 := hide ((Box.new w (.int .i64 0) (.slice none 0 0) 45).below b1)
  have B1 := hide (below_next (below_alloc w (.cells #[.int .i64 0, .slice none 0 0] 45)) b1)
  clear b1 HC
  go_wp2_with fail
  refine (implCutChunks_no a2 c2 zs w1 hbig hl).mono ?_
  rintro e w2 ⟨rfl, b2⟩
  obtain ⟨⟨q0, q1⟩, q2, q3⟩ := (X1.out.below b2).below (below_alloc _ (.cells #[.int .i64 2, .slice none 0 0] 27))
  have B2 := hide (below_next (below_next B1.out b2) (below_alloc _ (.cells #[.int .i64 2, .slice none 0 0] 27)))
  clear b2 X1
  go_wp2_with fail
  exact bodyPost_ret (v := .agg #[.int .i64 2, .slice none 0 0]) (by simp [results, Try.results24, go_sem, q0, q1]) rfl (ResC.no ((B2.out.setCell (Nat.le_refl _) _).setCell (Nat.le_refl _) _))

theorem perm_key {D : Nat → Int} {P : Nat → List Int} {n : Nat} {L : List Ch} (h : (lst D P n).Perm L) (d : Int) : d ∈ L.map Prod.fst ↔ ∃ i, i < n ∧ D i = d := by
  rw [← lst_key (P := P)]
  exact (h.map Prod.fst).mem_iff.symm

set_option maxRecDepth 100000 in
set_option maxHeartbeats 3200000 in
theorem implBytes_ok (a : Option Addr) (c n : Nat) (D : Nat → Int) (P : Nat → List Int) (a2 : Option Addr) (c2 : Nat) (zs : List Int) (w : World) (h : RdC w a D P n) (hn : n ≤ 1048576) (hP : ∀ i, i < n → U8 (P i) ∧ (P i).length ≤ 1048576) (hF : fault D P n = 0) (h2 : Reads .u8 w a2 zs) (hu : U8 zs) (hcap : zs.length ≤ c2) (hl : zs.length ≤ 24) (q : Int) (t : St) (hres : resS (runS (D, P, n) (piece zs) (cut zs).length) = (q, t)) :
    Calls Try.prog 24 #[.slice a n c, .slice a2 zs.length c2] w (ResC q t.1 t.2.1 t.2.2 w) := by
  have hfl := implFault_any a c n D P (w.alloc (.cells #[.int .i64 0, .slice none 0 0] 45)) (h.below (below_alloc _ _)) hn hP
  rw [hF] at hfl
  have HRt := hide (fault_zero hF)
  have hn40 := HRt.out.many
  have HC := hide hfl
  have HA := hide h
  have HR := hide h2
  have HU := hide hu
  have HRes := hide hres
  have hN : (cut zs).length ≤ 3 := by rw [cut_length]; omega
  have HPL : Hid (∀ j, j < (cut zs).length → 1 ≤ (piece zs j).length ∧ (piece zs j).length ≤ 8) := fun j hj => by rw [cut_length] at hj; rw [piece_length]; omega
  have HCut := hide (fun (u : World) (hr : Reads .u8 u a2 zs) => implCutChunks_ok a2 c2 zs u hr hcap hl)
  generalize hNN : (cut zs).length = N at *
  clear h hP hF hfl h2 hu hres hNN
  go_enter Try.func24, Try.ntmps24
  go_wp2_with fail
  refine HC.out.mono ?_
  rintro e w1 ⟨rfl, b1⟩
  have X1 := hide ((Box.new w (.int .i64 0) (.slice none 0 0) 45).below b1)
  have hs1 : w.heap.size < w1.heap.size := by have := b1.size; simp at this; omega
  have B1 := hide (below_next (below_alloc w (.cells #[.int .i64 0, .slice none 0 0] 45)) b1)
  clear b1 HC
  go_wp2_with fail
  refine (HCut.out w1 (HR.out.below B1.out)).mono ?_
  rintro e w2 ⟨pv, rfl, hG2, b2⟩
  obtain ⟨pa, pc, rfl⟩ := hG2.shape
  have hs2 := b2.size
  have X2 := hide ((X1.out.below b2).below (below_alloc _ (.cells #[.int .i64 0, .slice pa N pc] 27)))
  have T2 := hide (Two.new w2 (.int .i64 0) (.slice pa N pc) 27)
  have G2 := hide hG2
  have B2 := hide (below_next (below_next B1.out b2) (below_alloc _ (.cells #[.int .i64 0, .slice pa N pc] 27)))
  have hW : (w2.alloc (.cells #[.int .i64 0, .slice pa N pc] 27)).heap.size = w2.heap.size + 1 := by simp
  clear b2 hG2 X1 B1 HCut
  go_wp2_with fail
  refine (mapChunks_any a c n D P _ (HA.out.below B2.out) HRt.out).mono ?_
  rintro e w3 ⟨bm, rfl, hbm, hH3, b3⟩
  rw [hW] at hbm hH3
  have H3 := hide hH3
  have hs3 : w2.heap.size < w3.heap.size := by have := b3.size; omega
  have X3 := hide (X2.out.below b3)
  have B23 := hide (below_next (below_alloc w2 (.cells #[.int .i64 0, .slice pa N pc] 27)) b3)
  have B3 := hide (below_next B2.out b3)
  obtain ⟨t0, t1⟩ := T2.out.below b3
  clear hH3 X2 T2 B2 b3 hW
  go_wp2
  go_loopw [9, 10, 30] (fun _ _ i wr => ∃ (j : Nat) (s : St) (L : List Ch), j ≤ N ∧ i = .int .i64 j ∧ runS (D, P, n) (piece zs) j = some s ∧ Right s.1 s.2.1 s.2.2 ∧ (lst s.1 s.2.1 s.2.2).Perm L ∧ Holds wr bm (n + j) L (w2.heap.size + 1) ∧ Kept (fun x => x = bm) w3 wr) (fun _ _ i _ => N - (intOf i).toNat)
  case atStart => exact ⟨0, (D, P, n), lst D P n, Nat.zero_le _, rfl, rfl, HRt.out, List.Perm.refl _, H3.out, Kept.refl _ _⟩
  case round =>
    obtain ⟨j, ⟨D1, P1, n1⟩, L, hj, rfl, hrun, hR1, hperm, hH, hk⟩ := hrel
    simp only at hR1 hperm
    have HR1 := hide hR1
    have hn1 := hR1.many
    have HRun := hide hrun
    have HNx := hide (runS_next hrun)
    have HPm := hide hperm
    have hLl : L.length = n1 := by rw [← hperm.length_eq, lst_length]
    have HH := hide hH
    have HK := hide hk
    have hsr := hk.size
    clear hrun hR1 hperm hH
    by_cases hlt : j < N
    · obtain ⟨gp, x, dx, rfl, hc0, hr0⟩ := G2.out.at hlt
      have hpl := HPL.out j hlt
      have HUz := hide (HU.out.piece j)
      generalize piece zs j = z at *
      have hzne : z ≠ [] := by intro e; subst e; simp at hpl
      have hgp : gp < w2.heap.size := World.block_lt_of_cell? w2 ⟨gp, j, none⟩ hc0
      have HLt := hide (hr0.lt hzne)
      have hc1 := (hk.cell (p := ⟨gp, j, none⟩) (by simp; omega) (by simp; omega)).trans ((B23.out.cell (p := ⟨gp, j, none⟩) hgp).trans hc0)
      have HRz := hide ((hr0.below B23.out).kept hk (fun _ y hy e => by have := HLt.out y hy; omega))
      have HDg := hide (implDigestOf_any x dx z wr HRz.out HUz.out (by omega))
      have hdr := digest_range z
      have hwf := i64_wf hdr.1 hdr.2
      clear hc0 hr0 hk
      cases hh : hasS (D1, P1, n1) (digest z) with
      | true =>
        have HEq : Hid (runS (D, P, n) (piece zs) (j + 1) = some (D1, P1, n1)) := by rw [HNx.out]; unfold stepS; rw [if_pos hh]; exact hide rfl
        have HPt := hide (put_there bm (n + j) L (w2.heap.size + 1) (digest z) x z.length dx wr HH.out hwf ((perm_key HPm.out _).2 (hasS_true hh)))
        clear hh
        generalize digest z = dz at *
        go_wp2_with (first | (go_at_call 11; refine HDg.out.mono ?_; rintro e w4 ⟨rfl, rfl⟩) | (go_at_call 42; refine HPt.out.mono ?_; rintro e w5 ⟨rfl, hH5, hk5⟩; have H5 := hide hH5; have K5 := hide hk5; clear hH5 hk5) | fail)
        go_roundw
        case rel => exact ⟨j + 1, (D1, P1, n1), L, by omega, by go_num, HEq.out, HR1.out, HPm.out, H5.out.more (by omega), HK.out.trans K5.out⟩
        case measure => simp [intOf]; omega
      | false =>
        have hnk : digest z ∉ L.map Prod.fst := fun hm => by obtain ⟨i, hi, e⟩ := (perm_key HPm.out _).1 hm; exact hasS_false hh i hi e
        by_cases hf : 40 ≤ n1
        · have HEq : Hid (runS (D, P, n) (piece zs) N = none) := runS_none (k := j + 1) (by rw [HNx.out]; unfold stepS; rw [hh, if_neg (by simp), if_pos hf]) N (by omega)
          have HPt := hide (put_full bm (n + j) L (w2.heap.size + 1) (digest z) x z.length dx wr HH.out hwf hnk (by omega))
          obtain ⟨rfl, rfl⟩ : (2 : Int) = q ∧ ((fun _ => 0, fun _ => [], 0) : St) = t := by have := HRes.out; rw [HEq.out] at this; simpa [resS] using this
          clear hh hnk
          generalize digest z = dz at *
          go_wp2_with (first | (go_at_call 11; refine HDg.out.mono ?_; rintro e w4 ⟨rfl, rfl⟩) | (go_at_call 42; refine HPt.out.mono ?_; rintro e w5 ⟨rfl, hH5, hk5⟩; have K5 := hide (HK.out.trans hk5); obtain ⟨⟨q0, q1⟩, q2, q3⟩ := X3.out.kept K5.out (fun e => by omega); clear hH5 hk5) | fail)
          exact bodyPost_ret (v := .agg #[.int .i64 2, .slice none 0 0]) (by simp [results, Try.results24, go_sem, q0, q1]) rfl (ResC.no (((B3.out.trans (K5.out.below B3.out.size (fun y hy e => by omega))).setCell (Nat.le_refl _) _).setCell (Nat.le_refl _) _))
        · have HEq : Hid (runS (D, P, n) (piece zs) (j + 1) = some (putS (D1, P1, n1) z)) := by rw [HNx.out]; unfold stepS; rw [hh, if_neg (by simp), if_neg hf]; exact hide rfl
          have HR2 := hide (Right.put (s := (D1, P1, n1)) HR1.out hpl hh hf)
          have HPt := hide (put_new bm (n + j) L (w2.heap.size + 1) (digest z) x dx z wr HH.out hwf hnk (by omega) (by omega) HRz.out (fun y hy => by have := HLt.out y hy; omega))
          have HP2 : Hid ((lst (putS (D1, P1, n1) z).1 (putS (D1, P1, n1) z).2.1 (putS (D1, P1, n1) z).2.2).Perm (L ++ [(digest z, z)])) := (ins_perm D1 P1 (plc_ok D1 (digest z) n1).1 (digest z) z).trans (HPm.out.append_right _)
          generalize putS (D1, P1, n1) z = t2 at *
          clear hh hnk
          generalize digest z = dz at *
          go_wp2_with (first | (go_at_call 11; refine HDg.out.mono ?_; rintro e w4 ⟨rfl, rfl⟩) | (go_at_call 42; refine HPt.out.mono ?_; rintro e w5 ⟨rfl, hH5, hk5⟩; have H5 := hide hH5; have K5 := hide hk5; clear hH5 hk5) | fail)
          go_roundw
          case rel => exact ⟨j + 1, t2, _, by omega, by go_num, HEq.out, HR2.out, HP2.out, H5.out, HK.out.trans K5.out⟩
          case measure => simp [intOf]; omega
    · have hje : j = N := by omega
      subst hje
      obtain ⟨rfl, rfl⟩ : (0 : Int) = q ∧ (D1, P1, n1) = t := by have := HRes.out; rw [HRun.out] at this; simpa [resS] using this
      have hpw := pairwise_lst (D := D1) (P := P1) (n := n1) HR1.out.inj
      have hnd := HH.out.nodup
      have HUP : Hid (up L = lst D1 P1 n1) := up_unique ((up_perm hnd).trans HPm.out.symm) (up_up hnd) hpw
      have HLen : Hid (∀ p ∈ L, 0 < p.2.length ∧ p.2.length ≤ 1048576) := fun p hp => by obtain ⟨i, hi, e⟩ := lst_mem.1 (HPm.out.symm.subset hp); subst e; exact HR1.out.u8len hi
      have X4 := hide (X3.out.kept HK.out (fun e => by omega))
      have B4 := hide (B3.out.trans (HK.out.below B3.out.size (fun y hy e => by omega)))
      clear hpw hnd hk
      go_wp2_with fail
      refine (rising_any bm _ L (w2.heap.size + 1) wr HH.out (by omega) HLen.out (by omega)).mono ?_
      rintro e w6 ⟨av, cv, rfl, hG, b6⟩
      rw [hLl] at hG ⊢
      have HG := hide (hG.congr (D' := D1) (P' := P1) (fun i hi => by rw [HUP.out]; exact (dg_lst hi).symm) (fun i hi => by rw [HUP.out]; exact (bt_lst hi).symm))
      obtain ⟨⟨q0, q1⟩, q2, q3⟩ := X4.out.below b6
      have B6 := hide (below_next B4.out b6)
      clear hG b6 X4 B4
      go_wp2_with fail
      exact bodyPost_ret (v := .agg #[.int .i64 0, .slice av n1 cv]) (by simp [results, Try.results24, go_sem, q0, q1]) rfl (ResC.box HG.out (by omega) B6.out)

end Go.Proofs.Ytdebojhginiihaa
