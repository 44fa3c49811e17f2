/-
  Texts put together: FetZf FetAc FwHearFetch.
-/
import Derived.Test.YtfamiehfpmjljaaGreatDoorKHearFe12
import Derived.Test.YtfamiehfpmjljaaGreatDoorKHearFe10
import Derived.Test.YtfamiehfpmjljaaGreatDoorKHearFe11
import Derived.Test.YtfamiehfpmjljaaGreatDoorKHearFe9
import Derived.Test.YtfamiehfpmjljaaGreatDoorKHearFe5
namespace Go.Proofs.YtfamiehfpmjljaaGreatDoor
open Go.RowKit Go.Maps
set_option linter.unusedVariables false
set_option maxRecDepth 100000 in
set_option maxHeartbeats 6400000 in
theorem specHearFetch_new (wa : Option Addr) (wk : Nat) (W : List Wn) (fa : Option Addr) (fc : Nat) (F : List Int) (ca : Option Addr) (cc n : Nat) (D : Nat → Int) (P : Nat → List Int) (d : Int) (w : World) (h : RdF w wa W fa F ca D P n) (hn : n ≤ 1048576) (hP : SmallP P n) (hWl : W.length ≤ 1048576) (hFl : F.length ≤ 1048576) (hfc : F.length ≤ fc) (da : Option Addr) (dc : Nat) (zs : List Int) (hr : Reads .u8 w da zs) (hu : U8 zs) (hl : zs.length ≤ 1048576) (hz : fetFault W F D P n = 0) (hPl : ∀ i, i < n → 0 < (P i).length ∧ (P i).length ≤ 1048576) (i : Nat) (t : Int) (hi : i < W.length) (hdi : W.getD i (0, 0) = (d, t)) (hfi : ∀ j, j < i → (W.getD j (0, 0)).1 ≠ d) (hO : oneFault d zs = 0) (hnk : ∀ j, j < n → D j ≠ d) (h40 : ¬ 40 ≤ n) (hzl : 0 < zs.length ∧ zs.length ≤ 1048576) (m : Nat) (hm : m ≤ n) (hlow : ∀ i, i < m → D i < d) (hhigh : m < n → ¬ D m < d) :
    Calls Tryz.prog 12 #[fetV wa W.length wk fa F.length fc ca n cc, .int .i64 d, .slice da zs.length dc] w (ResF 0 (W.eraseIdx i) F (ins D m d) (ins P m zs) (n + 1) w) := by
  have B0 := hide (below_next (below_alloc w (.cells #[.slice wa W.length wk, .slice fa F.length fc, .slice ca n cc] 28)) (below_alloc _ (.cells #[.int .i64 0, .slice none 0 0, .slice none 0 0, .slice none 0 0] 32)))
  have X0 := hide ((Bx3.new w (.slice wa W.length wk) (.slice fa F.length fc) (.slice ca n cc) 28).below (below_alloc _ (.cells #[.int .i64 0, .slice none 0 0, .slice none 0 0, .slice none 0 0] 32)))
  have R0 := hide (Bx4.new (w.alloc (.cells #[.slice wa W.length wk, .slice fa F.length fc, .slice ca n cc] 28)) (.int .i64 0) (.slice none 0 0) (.slice none 0 0) (.slice none 0 0) 32)
  have hs : (w.alloc (.cells #[.slice wa W.length wk, .slice fa F.length fc, .slice ca n cc] 28)).heap.size = w.heap.size + 1 := by simp
  rw [hs] at R0
  clear hs
  have HFF := hide (l10Fault_any w.heap.size wa wk W fa fc F ca cc n D P _ X0.out (h.below B0.out) hn hP hWl hFl hfc)
  rw [hz] at HFF
  have HAT := hide (fun (u : World) (hb : Below w.heap.size w u) (hX : Bx3 u w.heap.size (.slice wa W.length wk) (.slice fa F.length fc) (.slice ca n cc)) => l10At_yes w.heap.size wa wk i W d u hX.1.1 (h.wants.below hb) hWl hi (by rw [hdi]) hfi)
  have HCP := hide (fun (u : World) (hb : Below w.heap.size w u) => l10Copy_at wa wk W fa fc F ca cc n D P u (h.below hb) hn hPl hWl hFl)
  have HDI := hide hdi
  have HRB := hide (fun (u : World) (hb : Below w.heap.size w u) => hr.below hb)
  have HON := hide (fun (u : World) (hb : Below w.heap.size w u) => specOne_any d da dc zs u (hr.below hb) hu hl)
  rw [hO] at HON
  have HF1 := hide (And.intro hnk (And.intro hlow hhigh))
  have HZL := hide hzl
  clear hO hnk hlow hhigh hzl
  have hi9 : ¬ (i : Int) < 0 := by omega
  clear h hP hz hdi hfi hr hu
  unfold fetV at HCP ⊢
  go_enter Tryz.func12, Tryz.ntmps12
  go_wp2_with fail
  generalize (w.alloc (.cells #[.slice wa W.length wk, .slice fa F.length fc, .slice ca n cc] 28)).alloc (.cells #[.int .i64 0, .slice none 0 0, .slice none 0 0, .slice none 0 0] 32) = W0 at *
  refine HFF.out.mono ?_
  rintro e w1 ⟨rfl, hb1⟩
  have B1 := hide (below_next B0.out hb1)
  have X1 := hide (X0.out.below hb1)
  have R1 := hide (R0.out.below hb1)
  clear hb1 X0 R0 B0 HFF
  go_wp2_with fail
  refine (HAT.out w1 B1.out X1.out).mono ?_
  rintro e w1 ⟨rfl, rfl⟩
  obtain ⟨⟨t0, t1, t2⟩, -, -, -⟩ := X1.out
  go_wp2_with fail
  clear t0 t1 t2
  refine (HCP.out w1 B1.out).mono ?_
  rintro e w2 ⟨xa, xc, ya, yc, za, zc, T, rfl, hZA, hW2, hF2, hG2, hT2, hxT, hyT, hb2⟩
  have hzw := B1.out.size
  have hz2 := hb2.size
  have hr1 := R1.out.lt
  have B2 := hide (below_next (below_next B1.out hb2) (below_alloc w2 (.cells #[.slice xa W.length xc, .slice ya F.length yc, .slice za n zc] 28)))
  have A2 := hide (below_alloc w2 (.cells #[.slice xa W.length xc, .slice ya F.length yc, .slice za n zc] 28))
  have N2 := hide (Bx3.new w2 (.slice xa W.length xc) (.slice ya F.length yc) (.slice za n zc) 28)
  have R2 := hide ((R1.out.below hb2).below A2.out)
  have W2 := hide (hW2.below A2.out)
  have F2 := hide (ownsRow_below hF2 A2.out)
  have G2 := hide (hG2.below A2.out)
  have D2 : Hid (RdF (w2.alloc (.cells #[.slice xa W.length xc, .slice ya F.length yc, .slice za n zc] 28)) xa W ya F za D P n) := hide ⟨(hW2.below A2.out).rd, reads_owned (ownsRow_below hF2 A2.out) rfl, (hG2.rd).below A2.out⟩
  have hyl : ∀ b, (Value.slice ya F.length yc).ownBlock = some b → b < w2.heap.size := fun b hb => (hF2.lt b hb).2
  have hxl : ∀ b, (Value.slice xa W.length xc).ownBlock = some b → b < w2.heap.size := fun b hb => (World.ownsRow.lt hW2 b hb).2
  have hsz3 : (w2.alloc (.cells #[.slice xa W.length xc, .slice ya F.length yc, .slice za n zc] 28)).heap.size = w2.heap.size + 1 := by simp
  have HYX := hide (And.intro hyl (And.intro hxl (And.intro hxT hsz3)))
  have HYT := hide hyT
  clear hb2 hW2 hF2 hG2 R1 HCP HAT X1 hyl hxl hxT hyT hsz3
  go_wp2_with fail
  refine (HON.out _ B2.out).mono ?_
  rintro e w3 ⟨rfl, mq, hmq⟩
  have bq := hide (below_drewN (Below.refl (w2.alloc (.cells #[.slice xa W.length xc, .slice ya F.length yc, .slice za n zc] 28)).heap.size (w2.alloc (.cells #[.slice xa W.length xc, .slice ya F.length yc, .slice za n zc] 28))) mq)
  rw [← hmq] at bq
  have N3 := hide (N2.out.below bq.out)
  have R3 := hide (R2.out.below bq.out)
  have W3 := hide (OwnW.below W2.out bq.out)
  have F3 := hide (ownsRow_below F2.out bq.out)
  have G3 := hide (G2.out.below bq.out)
  have B3 := hide (below_next B2.out bq.out)
  have hsz := bq.out.size
  have HSZ := hide hsz
  clear hmq N2 R2 W2 F2 G2 D2 B2 HON bq hsz
  have HZX : Hid (w2.heap.size + 1 ≤ w3.heap.size) := hide (by have := HSZ.out; have := HYX.out.2.2.2; omega)
  clear HSZ
  obtain ⟨zg, hzg, hzc⟩ := hZA
  subst hzg
  obtain ⟨i1, kj, kw0, kw1, kw2⟩ := info_parts Tryz.infoWn
  have HPT := hide (l2Put_new zg 0 zc n m D P d da dc zs w3 G3.out.rd hzc (by omega) hPl (HRB.out _ B3.out) HZL.out HF1.out.1 hm HF1.out.2.1 (fun h => by have := HF1.out.2.2 h; omega))
  obtain ⟨⟨s0, s1, s2⟩, -, -, -⟩ := N3.out
  go_wp2_with fail
  refine HPT.out.mono ?_
  rintro e w4 ⟨av, cv, rfl, hG4, hb4⟩
  have hz4 := hb4.size
  have K5 := hide (Kept.one w4 w2.heap.size 2 (.slice av (n + 1) cv))
  have X5 := hide ((N3.out.below hb4).set2 (.slice av (n + 1) cv))
  have R5 := hide ((R3.out.below hb4).kept K5.out (by omega))
  have B5 := hide ((below_next B3.out hb4).trans (K5.out.below (B := w.heap.size) (below_next B3.out hb4).size (fun k hk e => by omega)))
  have O5 : Hid ((w4.setCell ⟨w2.heap.size, 2, none⟩ (.slice av (n + 1) cv)).ownsRow w1.heap.size 120 2 (.slice xa W.length xc) W.length (flat W.length (laidW W.length W))) := hide (ownsRow_kept (ownsRow_below W3.out hb4) K5.out (fun b hb e => by have := HYX.out.2.1 b hb; omega))
  have F5 := hide (ownsRow_kept (ownsRow_below F3.out hb4) K5.out (fun b hb e => by have := HYX.out.1 b hb; omega))
  have FL5 := hide HYX.out.1
  have G5 := hide (hG4.kept K5.out (fun b h1 h2 e => by have := HZX.out; omega))
  have hz5 : (w4.setCell ⟨w2.heap.size, 2, none⟩ (.slice av (n + 1) cv)).heap.size = w4.heap.size := by simp [World.setCell]
  have HZ5 := hide hz5
  obtain ⟨⟨q0, q1, q2⟩, q3, q4, q5⟩ := N3.out.below hb4
  clear s0 s1 s2 hG4 hb4 hz5 N3 R3 B3 W3 F3 G3 HPT
  go_upto_region 17 with fail
  clear q0 q1 q2 q3 q4 q5 K5
  generalize w4.setCell ⟨w2.heap.size, 2, none⟩ (.slice av (n + 1) cv) = WW at *
  have hz5 : w4.heap.size ≤ WW.heap.size := by have := HZ5.out; omega
  have hfb5 : w2.heap.size < WW.heap.size := by have := HZX.out; omega
  obtain ⟨M, hM⟩ : ∃ M, M = (W.eraseIdx i).length := ⟨_, rfl⟩
  have HM := hide hM
  have hk0 : (0 : Int) ≤ (i : Int) := by omega
  have hk0' : (0 : Int) ≤ (i : Int) + 1 := by omega
  have hwr1 : IntKind.i64.wrap ((i : Int) + 1) = (i : Int) + 1 := by simp [IntKind.wrap, IntKind.signed, IntKind.bits]; omega
  have htn : ((i : Int) + 1).toNat = i + 1 := by omega
  have hI2 : (i : Int) + 1 ≤ (W.length : Int) := by omega
  have hI4 : (i : Int) ≤ (W.length : Int) := by omega
  clear hM
  obtain ⟨g, hg, hcw⟩ := ownsRow_addr O5.out (.inl (by omega))
  subst hg
  have hg5 : g < WW.heap.size := (O5.out.lt g rfl).2
  by_cases hc : xc = i + 1
  · subst hc
    have hlW : W.length ≤ i + 1 := hcw
    have CE5 := hide (ownW_cells O5.out rfl)
    have A5 := hide (below_alloc WW (.cells #[] 120)).drew
    have OWN0 : Hid ((WW.alloc (.cells #[] 120)).drew.ownsRow WW.heap.size 120 2 (.slice (some ⟨WW.heap.size, 0, none⟩) 0 0) 0 []) := hide (made_at rfl (Nat.le_refl _))
    have NEWS0 : Hid (∀ j u, (flat i (laidW W.length W))[j]? = some u → (WW.alloc (.cells #[] 120)).drew.cell? ((⟨g, 0, none⟩ : Addr).add j) = some u) := hide (fun j u hj => by
        rw [addr_add, Nat.zero_add]
        exact (A5.out.cell (p := ⟨g, j, none⟩) hg5).trans (CE5.out j u (take_flat W i (by omega) j u hj)))
    have NEWS2 : Hid (∀ w3 : World, Below WW.heap.size WW w3 → ∀ j u, ((flat W.length (laidW W.length W)).drop ((i + 1) * 2))[j]? = some u → w3.cell? ((⟨g, 0, none⟩ : Addr).add j) = some u) := hide (fun w3 hb3 j u hj => by
        rw [List.drop_eq_nil_of_le (by rw [flat_length (n := W.length) (k := 2) (F := laidW W.length W) (fun i _ => laidW_length _ _ _)]; omega)] at hj
        simp at hj)
    have HFl := hide (flat_length (n := i) (k := 2) (F := laidW W.length W) (fun i _ => laidW_length _ _ _))
    have HFn : Hid (((flat W.length (laidW W.length W)).drop ((i + 1) * 2)).length = 0 * 2) := hide (by rw [List.length_drop, flat_length (n := W.length) (k := 2) (F := laidW W.length W) (fun i _ => laidW_length _ _ _)]; omega)
    have hm0 : 0 + i ≤ maxLen := by unfold maxLen; omega
    have hm0' : (0 + i) * 16 ≤ 140737488355328 := by omega
    have HN : Hid (i + 0 = M) := hide (by have := HM.out; have := erase_len hi; omega)
    have hm2 : i + 0 ≤ maxLen := by unfold maxLen; omega
    have hm2' : (i + 0) * 16 ≤ 140737488355328 := by omega
    have hI1 : (i : Int) ≤ ((i : Int) + 1 : Int) := by omega
    have hI3 : (W.length : Int) ≤ ((i : Int) + 1 : Int) := by omega
    have HON2 := hide (fun u (hu : u ∈ (flat W.length (laidW W.length W)).drop ((i + 1) * 2)) => flatW_one W u (List.mem_of_mem_drop hu))
    obtain ⟨⟨x0, x1, x2⟩, x3, x4, x5⟩ := X5.out
    go_region_law
      ((first
        | (refine step_append_own (by rfl) (.tmp 50) (.tmp 54) 24 (by rfl) WW.heap.size 120 i1 (.agg #[.int .i64 0, .int .i64 0]) 2 16 Tryz.underlying24 kj kw0 kw1 kw2 rfl (by decide) (.slice (some ⟨WW.heap.size, 0, none⟩) 0 0) 0 [] (by rfl) OWN0.out ⟨g, 0, none⟩ i (i + 1) (flat i (laidW W.length W)) (by rfl) HFl.out NEWS0.out (oneW W i) i (by simp) hm0 hm0' A5.out.size ?_; intro av1 cv1 w6 hown3 hk3; have O3 := hide hown3; have BB3 := hide (A5.out.trans (hk3.below A5.out.size (fun q hq hS => by simp [Value.ownBlock] at hS; omega))); clear hown3 hk3; obtain ⟨⟨y0, y1, y2⟩, y3, y4, y5⟩ := X5.out.below BB3.out)
        | (refine step_append_own (by rfl) (.tmp 55) (.tmp 60) 24 (by rfl) WW.heap.size 120 i1 (.agg #[.int .i64 0, .int .i64 0]) 2 16 Tryz.underlying24 kj kw0 kw1 kw2 rfl (by decide) (.slice av1 i cv1) i ([] ++ flat i (laidW W.length W)) (by rfl) O3.out ⟨g, 0, none⟩ 0 0 ((flat W.length (laidW W.length W)).drop ((i + 1) * 2)) (by rfl) HFn.out (NEWS2.out w6 BB3.out) HON2.out M HN.out hm2 hm2' BB3.out.size ?_; intro av3 cv3 w7 hown4 hk4; have O4 := hide hown4; have BB4 := hide (BB3.out.trans (hk4.below BB3.out.size (fun q hq hS => by have := (O3.out.lt q hS).1; omega))); clear hown4 hk4; obtain ⟨⟨v0, v1, v2⟩, v3, v4, v5⟩ := X5.out.below BB4.out; obtain ⟨⟨m0, m1, m2, m3⟩, k0, k1, k2, k3⟩ := R5.out.below BB4.out)))
    all_goals
      go_wp2_with fail
      have hk5 := Kept.one w7 w2.heap.size 0 (.slice av3 M cv3)
      have hz7 : (w7.setCell ⟨w2.heap.size, 0, none⟩ (.slice av3 M cv3)).heap.size = w7.heap.size := by simp [World.setCell]
      have hM := HM.out
      subst hM
      have W8 : OwnW w1.heap.size (w7.setCell ⟨w2.heap.size, 0, none⟩ (.slice av3 (W.eraseIdx i).length cv3)) (.slice av3 (W.eraseIdx i).length cv3) (W.eraseIdx i) := by
        have h8 := ownsRow_kept O4.out hk5 (fun b hb e => by have := (O4.out.lt b hb).1; omega)
        rw [List.nil_append, erase_flat W i hi] at h8
        exact ownsRow_mono h8 (by omega)
      have F8 := ownsRow_kept (ownsRow_below F5.out BB4.out) hk5 (fun b hb e => by have := FL5.out b hb; omega)
      have G8 := ((G5.out.below BB4.out).kept hk5 (fun b h1 h2 e => by have := HZX.out; omega)).mono (B' := w1.heap.size) (by have := HZX.out; omega)
      have hw4 := BB4.out.size
      exact bodyPost_ret (v := .agg #[.int .i64 0, .slice av3 (W.eraseIdx i).length cv3, .slice ya F.length yc, .slice av (n + 1) cv]) (by simp [results, Tryz.results12, go_sem, m0, m1, m2, m3]) rfl (ResF.box (B := w1.heap.size) W8 F8 (G8.wide (by rw [hz7]; omega)) ((below_next B5.out BB4.out).trans (hk5.below (B := w.heap.size) (below_next B5.out BB4.out).size (fun k hk e => by omega))) (by omega) (by omega))
  · have CE5 := hide (ownW_cells O5.out rfl)
    have A5 := hide (below_alloc WW (.cells #[] 120)).drew
    have OWN0 : Hid ((WW.alloc (.cells #[] 120)).drew.ownsRow WW.heap.size 120 2 (.slice (some ⟨WW.heap.size, 0, none⟩) 0 0) 0 []) := hide (made_at rfl (Nat.le_refl _))
    have NEWS0 : Hid (∀ j u, (flat i (laidW W.length W))[j]? = some u → (WW.alloc (.cells #[] 120)).drew.cell? ((⟨g, 0, none⟩ : Addr).add j) = some u) := hide (fun j u hj => by
        rw [addr_add, Nat.zero_add]
        exact (A5.out.cell (p := ⟨g, j, none⟩) hg5).trans (CE5.out j u (take_flat W i (by omega) j u hj)))
    have NEWS2 : Hid (∀ w3 : World, Below WW.heap.size WW w3 → ∀ j u, ((flat W.length (laidW W.length W)).drop ((i + 1) * 2))[j]? = some u → w3.cell? ((⟨g, (i + 1) * 2, none⟩ : Addr).add j) = some u) := hide (fun w3 hb3 j u hj => by
        rw [addr_add]
        rw [List.getElem?_drop] at hj
        exact (hb3.cell (p := ⟨g, (i + 1) * 2 + j, none⟩) hg5).trans (CE5.out _ u hj))
    have HFl := hide (flat_length (n := i) (k := 2) (F := laidW W.length W) (fun i _ => laidW_length _ _ _))
    have HFn : Hid (((flat W.length (laidW W.length W)).drop ((i + 1) * 2)).length = (W.length - (i + 1)) * 2) := hide (by rw [List.length_drop, flat_length (n := W.length) (k := 2) (F := laidW W.length W) (fun i _ => laidW_length _ _ _)]; omega)
    have hm0 : 0 + i ≤ maxLen := by unfold maxLen; omega
    have hm0' : (0 + i) * 16 ≤ 140737488355328 := by omega
    have HN : Hid (i + (W.length - (i + 1)) = M) := hide (by have := HM.out; have := erase_len hi; omega)
    have hm2 : i + (W.length - (i + 1)) ≤ maxLen := by unfold maxLen; omega
    have hm2' : (i + (W.length - (i + 1))) * 16 ≤ 140737488355328 := by omega
    have hI1 : (i : Int) ≤ (xc : Int) := by omega
    have hI3 : (W.length : Int) ≤ (xc : Int) := by omega
    have HON2 := hide (fun u (hu : u ∈ (flat W.length (laidW W.length W)).drop ((i + 1) * 2)) => flatW_one W u (List.mem_of_mem_drop hu))
    obtain ⟨⟨x0, x1, x2⟩, x3, x4, x5⟩ := X5.out
    go_region_law
      ((first
        | (refine step_append_own (by rfl) (.tmp 50) (.tmp 54) 24 (by rfl) WW.heap.size 120 i1 (.agg #[.int .i64 0, .int .i64 0]) 2 16 Tryz.underlying24 kj kw0 kw1 kw2 rfl (by decide) (.slice (some ⟨WW.heap.size, 0, none⟩) 0 0) 0 [] (by rfl) OWN0.out ⟨g, 0, none⟩ i xc (flat i (laidW W.length W)) (by rfl) HFl.out NEWS0.out (oneW W i) i (by simp) hm0 hm0' A5.out.size ?_; intro av1 cv1 w6 hown3 hk3; have O3 := hide hown3; have BB3 := hide (A5.out.trans (hk3.below A5.out.size (fun q hq hS => by simp [Value.ownBlock] at hS; omega))); clear hown3 hk3; obtain ⟨⟨y0, y1, y2⟩, y3, y4, y5⟩ := X5.out.below BB3.out)
        | (refine step_append_own (by rfl) (.tmp 55) (.tmp 60) 24 (by rfl) WW.heap.size 120 i1 (.agg #[.int .i64 0, .int .i64 0]) 2 16 Tryz.underlying24 kj kw0 kw1 kw2 rfl (by decide) (.slice av1 i cv1) i ([] ++ flat i (laidW W.length W)) (by rfl) O3.out ⟨g, (i + 1) * 2, none⟩ (W.length - (i + 1)) (xc - (i + 1)) ((flat W.length (laidW W.length W)).drop ((i + 1) * 2)) (by rfl) HFn.out (NEWS2.out w6 BB3.out) HON2.out M HN.out hm2 hm2' BB3.out.size ?_; intro av3 cv3 w7 hown4 hk4; have O4 := hide hown4; have BB4 := hide (BB3.out.trans (hk4.below BB3.out.size (fun q hq hS => by have := (O3.out.lt q hS).1; omega))); clear hown4 hk4; obtain ⟨⟨v0, v1, v2⟩, v3, v4, v5⟩ := X5.out.below BB4.out; obtain ⟨⟨m0, m1, m2, m3⟩, k0, k1, k2, k3⟩ := R5.out.below BB4.out)))
    all_goals
      go_wp2_with fail
      have hk5 := Kept.one w7 w2.heap.size 0 (.slice av3 M cv3)
      have hz7 : (w7.setCell ⟨w2.heap.size, 0, none⟩ (.slice av3 M cv3)).heap.size = w7.heap.size := by simp [World.setCell]
      have hM := HM.out
      subst hM
      have W8 : OwnW w1.heap.size (w7.setCell ⟨w2.heap.size, 0, none⟩ (.slice av3 (W.eraseIdx i).length cv3)) (.slice av3 (W.eraseIdx i).length cv3) (W.eraseIdx i) := by
        have h8 := ownsRow_kept O4.out hk5 (fun b hb e => by have := (O4.out.lt b hb).1; omega)
        rw [List.nil_append, erase_flat W i hi] at h8
        exact ownsRow_mono h8 (by omega)
      have F8 := ownsRow_kept (ownsRow_below F5.out BB4.out) hk5 (fun b hb e => by have := FL5.out b hb; omega)
      have G8 := ((G5.out.below BB4.out).kept hk5 (fun b h1 h2 e => by have := HZX.out; omega)).mono (B' := w1.heap.size) (by have := HZX.out; omega)
      have hw4 := BB4.out.size
      exact bodyPost_ret (v := .agg #[.int .i64 0, .slice av3 (W.eraseIdx i).length cv3, .slice ya F.length yc, .slice av (n + 1) cv]) (by simp [results, Tryz.results12, go_sem, m0, m1, m2, m3]) rfl (ResF.box (B := w1.heap.size) W8 F8 (G8.wide (by rw [hz7]; omega)) ((below_next B5.out BB4.out).trans (hk5.below (B := w.heap.size) (below_next B5.out BB4.out).size (fun k hk e => by omega))) (by omega) (by omega))
end Go.Proofs.YtfamiehfpmjljaaGreatDoor

namespace Go.Proofs.YtfamiehfpmjljaaGreatDoor
open Go.RowKit Go.Maps
set_option linter.unusedVariables false
theorem place_of (D : Nat → Int) (d : Int) : ∀ n : Nat, ∃ m, m ≤ n ∧ (∀ i, i < m → D i < d) ∧ (m < n → ¬ D m < d)
  | 0 => ⟨0, Nat.le_refl _, fun i hi => by omega, fun h => by omega⟩
  | n + 1 => by
    obtain ⟨m, h1, h2, h3⟩ := place_of D d n
    by_cases h : m < n
    · exact ⟨m, by omega, h2, fun _ => h3 h⟩
    · have e : m = n := by omega
      subst e
      by_cases hd : D m < d
      · exact ⟨m + 1, Nat.le_refl _, fun i hi => by
          by_cases hi2 : i < m
          · exact h2 i hi2
          · have : i = m := by omega
            subst this
            exact hd, fun h => by omega⟩
      · exact ⟨m, by omega, h2, fun _ => hd⟩
theorem hear_both (W : List Wn) (F : List Int) (D : Nat → Int) (P : Nat → List Int) (n : Nat) (d : Int) (zs : List Int) (hn : n ≤ 1048576) (hP : SmallP P n) (hWl : W.length ≤ 1048576) (hFl : F.length ≤ 1048576) (hu : U8 zs) (hl : zs.length ≤ 1048576) :
    ∃ q W' F' D' P' n', Bnd W' F' P' n' ∧
      (∀ wa wk fa fc ca cc da dc u, RdF u wa W fa F ca D P n → F.length ≤ fc → Reads .u8 u da zs → Calls Tryz.prog 12 #[fetV wa W.length wk fa F.length fc ca n cc, .int .i64 d, .slice da zs.length dc] u (ResF q W' F' D' P' n' u)) ∧
      (∀ wa wk fa fc ca cc da dc u a0 a1, Ge u a0 a1 → RdF u wa W fa F ca D P n → Reads .u8 u da zs → Calls Tryz.prog 11 #[fetV wa W.length wk fa F.length fc ca n cc, .int .i64 d, .slice da zs.length dc] u (ResF q W' F' D' P' n' u)) := by
  by_cases hO : oneFault d zs = 0
  · by_cases hz : fetFault W F D P n = 0
    · obtain ⟨hR, hfit⟩ := fet_zero hz
      have hw1 := hfit.wmany
      have hf1 := hfit.fmany
      have hPl : ∀ i, i < n → 0 < (P i).length ∧ (P i).length ≤ 1048576 := fun i hi => hR.u8len hi
      by_cases hw : d ∈ W.map Prod.fst
      · obtain ⟨i, hi, e, hfi⟩ := want_at hw
        have hoth := want_other hfit.wone hi e
        obtain ⟨t, ht⟩ : ∃ t, t = (W.getD i (0, 0)).2 := ⟨_, rfl⟩
        have hd : W.getD i (0, 0) = (d, t) := by rw [← e, ht]
        have hnk : ∀ j, j < n → D j ≠ d := fun j hj e2 => (hfit.wfree _ (getD_mem (0, 0) hi)).1 (by rw [e]; exact mem_keysC.2 ⟨j, hj, e2⟩)
        by_cases h40 : 40 ≤ n
        · exact ⟨2, [], [], D, P, 0, Bnd.none P, fun wa wk fa fc ca cc da dc u h hfc hr => specHearFetch_many wa wk W fa fc F ca cc n D P d u h hn hP hWl hFl hfc da dc zs hr hu hl hz hPl i t hi hd hfi hO hnk h40, fun wa wk fa fc ca cc da dc u a0 a1 hg h hr => implHearFetch_full wa wk W fa fc F ca cc n D P d da dc zs u a0 a1 hg h hn hP hWl hFl hr hu hl hO hz hR i hi e hoth hnk h40⟩
        · obtain ⟨m, hm, hlow, hhigh⟩ := place_of D d n
          have hz8 := (oneFault_zero hO).2.1
          have hp8 : ∀ j, j < n + 1 → (ins P m zs j).length ≤ 8 := fun j hj => by
            unfold ins
            split
            · exact (hR.len j (by omega)).2
            · split
              · exact hz8.2
              · exact (hR.len (j - 1) (by omega)).2
          have ha8 := ahead_le8 (P := ins P m zs) (n := n + 1) hp8 (n + 1) (Nat.le_refl _)
          have hR40 := hR.many
          exact ⟨0, W.eraseIdx i, F, ins D m d, ins P m zs, n + 1, ⟨by rw [erase_len hi]; omega, by omega, by omega, fun j hj => by have := hp8 j hj; omega, by omega⟩, fun wa wk fa fc ca cc da dc u h hfc hr => specHearFetch_new wa wk W fa fc F ca cc n D P d u h hn hP hWl hFl hfc da dc zs hr hu hl hz hPl i t hi hd hfi hO hnk h40 ⟨by omega, by omega⟩ m hm hlow hhigh, fun wa wk fa fc ca cc da dc u a0 a1 hg h hr => implHearFetch_new wa wk W fa fc F ca cc n D P d da dc zs u h hn hP hWl hFl hr hu hl hO hz hR i hi e hoth hnk (by omega) m hm hlow hhigh⟩
      · exact ⟨4, [], [], D, P, 0, Bnd.none P, fun wa wk fa fc ca cc da dc u h hfc hr => specHearFetch_none wa wk W fa fc F ca cc n D P d u h hn hP hWl hFl hfc da dc zs hr hu hl hz (want_no hw), fun wa wk fa fc ca cc da dc u a0 a1 hg h hr => implHearFetch_none wa wk W fa fc F ca cc n D P d da dc zs u a0 a1 hg h hn hP hWl hFl hr hu hl hO hz hR (want_no hw)⟩
    · exact ⟨fetFault W F D P n, [], [], D, P, 0, Bnd.none P, fun wa wk fa fc ca cc da dc u h hfc hr => specHearFetch_bad wa wk W fa fc F ca cc n D P d u h hn hP hWl hFl hfc da dc zs hr hu hl hz, fun wa wk fa fc ca cc da dc u a0 a1 hg h hr => implHearFetch_bad wa wk W fa fc F ca cc n D P d da dc zs u h hn hP hWl hFl hr hu hl hO hz⟩
  · by_cases hz : fetFault W F D P n = 0
    · obtain ⟨hR, hfit⟩ := fet_zero hz
      have hw1 := hfit.wmany
      have hf1 := hfit.fmany
      have hPl : ∀ i, i < n → 0 < (P i).length ∧ (P i).length ≤ 1048576 := fun i hi => hR.u8len hi
      by_cases hw : d ∈ W.map Prod.fst
      · obtain ⟨i, hi, e, hfi⟩ := want_at hw
        have hx := hfit.wok _ (getD_mem (0, 0) hi)
        have hoth := want_other hfit.wone hi e
        obtain ⟨t, ht⟩ : ∃ t, t = (W.getD i (0, 0)).2 := ⟨_, rfl⟩
        have hd : W.getD i (0, 0) = (d, t) := by rw [← e, ht]
        rw [← ht] at hx
        have h0 := hx.2.1
        have h9 : t ≤ 9 := by omega
        by_cases h3 : t + 1 < 3
        · exact ⟨0, W.set i (d, t + 1), F, D, P, n, hR.bnd (by simp; omega) (by omega), fun wa wk fa fc ca cc da dc u h hfc hr => specHearFetch_more wa wk W fa fc F ca cc n D P d u h hn hP hWl hFl hfc da dc zs hr hu hl hz hPl i t hi hd hfi hO h0 h3, fun wa wk fa fc ca cc da dc u a0 a1 hg h hr => implHearFetch_lost wa wk W fa fc F ca cc n D P d da dc zs u h hn hP hWl hFl hr hu hl hO _ _ _ _ _ _ (fun v hb => implLoseFetch_more wa wk W fa fc F ca cc n D P d v (h.below hb) hn hP hWl hFl hz hR i t hi hd hoth h0 h3)⟩
        · by_cases h40 : 40 ≤ F.length
          · exact ⟨2, [], [], D, P, 0, Bnd.none P, fun wa wk fa fc ca cc da dc u h hfc hr => specHearFetch_full wa wk W fa fc F ca cc n D P d u h hn hP hWl hFl hfc da dc zs hr hu hl hz hPl i t hi hd hfi hO h0 h9 h3 h40, fun wa wk fa fc ca cc da dc u a0 a1 hg h hr => implHearFetch_lost wa wk W fa fc F ca cc n D P d da dc zs u h hn hP hWl hFl hr hu hl hO _ _ _ _ _ _ (fun v hb => implLoseFetch_full wa wk W fa fc F ca cc n D P d v a0 a1 (hg.below hb) (h.below hb) hn hP hWl hFl hz hR i t hi hd hoth h0 h9 h3 h40)⟩
          · exact ⟨0, W.eraseIdx i, F ++ [d], D, P, n, hR.bnd (by rw [erase_len hi]; omega) (by simp; omega), fun wa wk fa fc ca cc da dc u h hfc hr => specHearFetch_last wa wk W fa fc F ca cc n D P d u h hn hP hWl hFl hfc da dc zs hr hu hl hz hPl i t hi hd hfi hO h0 h9 h3 h40, fun wa wk fa fc ca cc da dc u a0 a1 hg h hr => implHearFetch_lost wa wk W fa fc F ca cc n D P d da dc zs u h hn hP hWl hFl hr hu hl hO _ _ _ _ _ _ (fun v hb => implLoseFetch_last wa wk W fa fc F ca cc n D P d v a0 a1 (hg.below hb) (h.below hb) hn hP hWl hFl hz hR i t hi hd hoth h0 h9 h3 h40)⟩
      · exact ⟨4, [], [], D, P, 0, Bnd.none P, fun wa wk fa fc ca cc da dc u h hfc hr => specHearFetch_none wa wk W fa fc F ca cc n D P d u h hn hP hWl hFl hfc da dc zs hr hu hl hz (want_no hw), fun wa wk fa fc ca cc da dc u a0 a1 hg h hr => implHearFetch_lost wa wk W fa fc F ca cc n D P d da dc zs u h hn hP hWl hFl hr hu hl hO _ _ _ _ _ _ (fun v hb => implLoseFetch_none wa wk W fa fc F ca cc n D P d v a0 a1 (hg.below hb) (h.below hb) hn hP hWl hFl hz hR (want_no hw))⟩
    · exact ⟨fetFault W F D P n, [], [], D, P, 0, Bnd.none P, fun wa wk fa fc ca cc da dc u h hfc hr => specHearFetch_bad wa wk W fa fc F ca cc n D P d u h hn hP hWl hFl hfc da dc zs hr hu hl hz, fun wa wk fa fc ca cc da dc u a0 a1 hg h hr => implHearFetch_lost wa wk W fa fc F ca cc n D P d da dc zs u h hn hP hWl hFl hr hu hl hO _ _ _ _ _ _ (fun v hb => implLoseFetch_bad wa wk W fa fc F ca cc n D P d v (h.below hb) hn hP hWl hFl hz)⟩
end Go.Proofs.YtfamiehfpmjljaaGreatDoor

namespace Go.Proofs.YtfamiehfpmjljaaGreatDoor.hearFetch
open Go.ChangeShapes Go.WideShapes Go.ChangeAt Go.RowKit Go.Maps
set_option linter.unusedVariables false


set_option maxRecDepth 100000 in
set_option maxHeartbeats 16000000 in
theorem core (w : World) (wa : Option Addr) (wc : Nat) (W : List Wn) (fa : Option Addr) (fc : Nat) (F : List Int) (ca : Option Addr) (cc n : Nat) (D : Nat → Int) (P : Nat → List Int) (h : RdF w wa W fa F ca D P n) (hfit : (W.length : Int) + F.length + n + ahead P n ≤ 1048576) (d : Int) (da : Option Addr) (dc : Nat) (zs : List Int) (hr : Reads .u8 w da zs) (hzl : zs.length ≤ 1048576) (q : Int) (W' : List Wn) (F' : List Int) (D' : Nat → Int) (P' : Nat → List Int) (n' : Nat) (hW' : W'.length ≤ 1000) (hF' : F'.length ≤ 1000) (hn' : n' ≤ 1048576) (hP' : ∀ i, i < n' → (P' i).length ≤ 1048576) (ha' : ahead P' n' ≤ 1048576)
    (hs : (∀ (x1 x2 x3 : Nat) (x4 : Nat) (u : World), Below w.heap.size w u → RdF u (some ⟨x1, 0, none⟩) W (some ⟨x2, 0, none⟩) F (some ⟨x3, 0, none⟩) D P n → Reads .u8 u (some ⟨x4, 0, none⟩) zs → Calls Tryz.prog 12 #[fetV (some ⟨x1, 0, none⟩) W.length W.length (some ⟨x2, 0, none⟩) F.length F.length (some ⟨x3, 0, none⟩) n n, .int .i64 d, .slice (some ⟨x4, 0, none⟩) zs.length zs.length] u (ResF q W' F' D' P' n' u)))
    (hi : (∀ (x1 x2 x3 : Nat) (x4 : Nat) (u : World), Below w.heap.size w u → RdF u (some ⟨x1, 0, none⟩) W (some ⟨x2, 0, none⟩) F (some ⟨x3, 0, none⟩) D P n → Reads .u8 u (some ⟨x4, 0, none⟩) zs → Calls Tryz.prog 11 #[fetV (some ⟨x1, 0, none⟩) W.length W.length (some ⟨x2, 0, none⟩) F.length F.length (some ⟨x3, 0, none⟩) n n, .int .i64 d, .slice (some ⟨x4, 0, none⟩) zs.length zs.length] u (ResF q W' F' D' P' n' u))) :
    Calls Tryz.prog 6 #[.agg #[.slice wa W.length wc, .slice fa F.length fc, .slice ca n cc], .int .i64 d, .slice da zs.length dc] w fun e w' => e = .returned (.bool true) ∧ Below w.heap.size w w' := by
  have B_0 := hide (below_alloc w (.cells #[.slice wa W.length wc, .slice fa F.length fc, .slice ca n cc] 51))
  have PA_0 := hide (Bx3.new w (.slice wa W.length wc) (.slice fa F.length fc) (.slice ca n cc) 51)
  have hW : W.length ≤ 1048576 := by omega
  have hF : F.length ≤ 1048576 := by omega
  have hn : n ≤ 1048576 := by omega
  have hah : ahead P n ≤ 1048576 := by omega
  have hPl : ∀ i, i < n → (P i).length ≤ 1048576 := fun i hi => by have := ahead_le P (i := i + 1) (j := n) (by omega); simp only [ahead] at this; omega
  have HPl := hide hPl
  have HP2 := hide hP'
  have HS0 := hide (szFetch_fits wa wc W fa fc F ca cc n D P _ (h.below B_0.out) hfit)
  have hleft : ¬ (1048576 : Int) - W.length - F.length - n - ahead P n < 0 := by omega
  have HT := hide (fun (u : World) (hu : Below w.heap.size w u) => toFetch_own wa wc W fa fc F ca cc n D P u (h.below hu) hW hF hn hPl)
  have HSp := hide hs
  have HIm := hide hi
  unfold fetV at HS0 HT HSp HIm
  have hbz : ¬ (1048576 : Int) < (zs.length : Int) := by omega
  have HTB := hide (fun (u : World) (hu : Below w.heap.size w u) => toByteS_at da dc zs u (hr.below hu) hzl)
  clear h hPl hP' hs hi hfit hr
  go_enter Tryz.func6, Tryz.ntmps6
  obtain ⟨⟨pt0, pt1, pt2⟩, -, -, -⟩ := PA_0.out
  go_wp2_with fail
  clear pt0 pt1 pt2
  have HZW : Hid (w.heap.size + 1 ≤ (w.alloc (.cells #[.slice wa W.length wc, .slice fa F.length fc, .slice ca n cc] 51)).heap.size) := hide (by simp)
  generalize w.alloc (.cells #[.slice wa W.length wc, .slice fa F.length fc, .slice ca n cc] 51) = W0 at *
  refine HS0.out.mono ?_
  rintro e w1 ⟨rfl, b1⟩
  clear HS0
  have z_1 : W0.heap.size ≤ w1.heap.size := b1.size
  have PA_1 := hide (PA_0.out.below b1)
  have B_1 := hide (below_next B_0.out b1)
  clear PA_0 B_0 b1
  obtain ⟨⟨PAt0, PAt1, PAt2⟩, -, -, -⟩ := PA_1.out
  go_wp2_with fail
  clear PAt0 PAt1 PAt2
  refine (HT.out w1 B_1.out).mono ?_
  rintro e w2 ⟨y1, y2, y3, rfl, gw2, bw2⟩
  have z_2 : w1.heap.size ≤ w2.heap.size := bw2.size
  have PA_2 := hide (PA_1.out.below bw2)
  have B_2 := hide (below_next B_1.out bw2)
  have Y_2 := hide gw2
  clear gw2
  clear PA_1 B_1 bw2
  go_wp2_with fail
  refine (HTB.out w2 B_2.out).mono ?_
  rintro e w2b ⟨yb, rfl, hlw2b, huw2b, ow2b, bw2b⟩
  have z_3 : w2.heap.size ≤ w2b.heap.size := bw2b.size
  have PA_3 := hide (PA_2.out.below bw2b)
  have Y_3 := hide (Y_2.out.below bw2b)
  have B_3 := hide (below_next B_2.out bw2b)
  have YB_3 := hide ow2b
  clear ow2b
  clear PA_2 Y_2 B_2 bw2b
  go_wp2_with fail
  refine (HSp.out y1 y2 y3 yb w2b B_3.out Y_3.out.rd YB_3.out.reads).mono ?_
  rintro e w3 hresw3
  obtain ⟨w3a1, w3c1, w3a2, w3c2, w3a3, w3c3, rfl, gw3, bw3⟩ := hresw3.gf
  clear hresw3
  have z_4 : w2b.heap.size ≤ w3.heap.size := bw3.size
  have PA_4 := hide (PA_3.out.below bw3)
  have Y_4 := hide (Y_3.out.below bw3)
  have YB_4 := hide (YB_3.out.below bw3)
  have B_4 := hide (below_next B_3.out bw3)
  have Dd_4 := hide gw3
  clear gw3
  clear PA_3 Y_3 YB_3 B_3 bw3
  clear Y_4 YB_4
  have ab5 := hide (below_alloc w3 (.cells #[.int .i64 q, .slice w3a1 W'.length w3c1, .slice w3a2 F'.length w3c2, .slice w3a3 n' w3c3] 32))
  have PA_5 := hide (PA_4.out.below ab5.out)
  have Dd_5 := hide (Dd_4.out.below ab5.out)
  have T_5 := hide (Bx4.new w3 (.int .i64 q) (.slice w3a1 W'.length w3c1) (.slice w3a2 F'.length w3c2) (.slice w3a3 n' w3c3) 32)
  have B_5 := hide (below_next B_4.out ab5.out)
  have zb_5 : (w3.alloc (.cells #[.int .i64 q, .slice w3a1 W'.length w3c1, .slice w3a2 F'.length w3c2, .slice w3a3 n' w3c3] 32)).heap.size = w3.heap.size + 1 := by simp
  have ZB_5 := hide zb_5
  clear zb_5 PA_4 Dd_4 B_4 ab5
  obtain ⟨⟨PAt0, PAt1, PAt2⟩, -, -, -⟩ := PA_5.out
  go_wp2_with fail
  clear PAt0 PAt1 PAt2
  generalize w3.alloc (.cells #[.int .i64 q, .slice w3a1 W'.length w3c1, .slice w3a2 F'.length w3c2, .slice w3a3 n' w3c3] 32) = V5 at *
  have zz_5 : w3.heap.size + 1 ≤ V5.heap.size := by have := ZB_5.out; omega
  clear ZB_5
  refine (HT.out V5 B_5.out).mono ?_
  rintro e w4 ⟨x1, x2, x3, rfl, gw4, bw4⟩
  have z_6 : V5.heap.size ≤ w4.heap.size := bw4.size
  have PA_6 := hide (PA_5.out.below bw4)
  have Dd_6 := hide (Dd_5.out.below bw4)
  have T_6 := hide (T_5.out.below bw4)
  have B_6 := hide (below_next B_5.out bw4)
  have X_6 := hide gw4
  clear gw4
  clear PA_5 Dd_5 T_5 B_5 bw4
  have ab7 := hide (below_alloc w4 (.cells #[.slice (some ⟨x1, 0, none⟩) W.length W.length, .slice (some ⟨x2, 0, none⟩) F.length F.length, .slice (some ⟨x3, 0, none⟩) n n] 28))
  have PA_7 := hide (PA_6.out.below ab7.out)
  have Dd_7 := hide (Dd_6.out.below ab7.out)
  have T_7 := hide (T_6.out.below ab7.out)
  have X_7 := hide (X_6.out.below ab7.out)
  have XX_7 := hide (Bx3.new w4 (.slice (some ⟨x1, 0, none⟩) W.length W.length) (.slice (some ⟨x2, 0, none⟩) F.length F.length) (.slice (some ⟨x3, 0, none⟩) n n) 28)
  have B_7 := hide (below_next B_6.out ab7.out)
  have zb_7 : (w4.alloc (.cells #[.slice (some ⟨x1, 0, none⟩) W.length W.length, .slice (some ⟨x2, 0, none⟩) F.length F.length, .slice (some ⟨x3, 0, none⟩) n n] 28)).heap.size = w4.heap.size + 1 := by simp
  have ZB_7 := hide zb_7
  clear zb_7 PA_6 Dd_6 T_6 X_6 B_6 ab7
  go_wp2_with fail
  generalize w4.alloc (.cells #[.slice (some ⟨x1, 0, none⟩) W.length W.length, .slice (some ⟨x2, 0, none⟩) F.length F.length, .slice (some ⟨x3, 0, none⟩) n n] 28) = V7 at *
  have zz_7 : w4.heap.size + 1 ≤ V7.heap.size := by have := ZB_7.out; omega
  clear ZB_7
  refine (HTB.out V7 B_7.out).mono ?_
  rintro e w5 ⟨xb, rfl, hlw5, huw5, ow5, bw5⟩
  have z_8 : V7.heap.size ≤ w5.heap.size := bw5.size
  have PA_8 := hide (PA_7.out.below bw5)
  have Dd_8 := hide (Dd_7.out.below bw5)
  have T_8 := hide (T_7.out.below bw5)
  have X_8 := hide (X_7.out.below bw5)
  have XX_8 := hide (XX_7.out.below bw5)
  have B_8 := hide (below_next B_7.out bw5)
  have XB_8 := hide ow5
  clear ow5
  clear PA_7 Dd_7 T_7 X_7 XX_7 B_7 bw5
  obtain ⟨⟨XXt0, XXt1, XXt2⟩, -, -, -⟩ := XX_8.out
  go_wp2_with fail
  clear XXt0 XXt1 XXt2
  refine (HIm.out x1 x2 x3 xb w5 B_8.out X_8.out.rd XB_8.out.reads).mono ?_
  rintro e w6 hresw6
  obtain ⟨w6a1, w6c1, w6a2, w6c2, w6a3, w6c3, rfl, gw6, bw6⟩ := hresw6.gf
  clear hresw6
  have z_9 : w5.heap.size ≤ w6.heap.size := bw6.size
  have PA_9 := hide (PA_8.out.below bw6)
  have Dd_9 := hide (Dd_8.out.below bw6)
  have T_9 := hide (T_8.out.below bw6)
  have X_9 := hide (X_8.out.below bw6)
  have XX_9 := hide (XX_8.out.below bw6)
  have XB_9 := hide (XB_8.out.below bw6)
  have B_9 := hide (below_next B_8.out bw6)
  have Gg_9 := hide gw6
  clear gw6
  clear PA_8 Dd_8 T_8 X_8 XX_8 XB_8 B_8 bw6
  have ab10 := hide (below_alloc w6 (.cells #[.int .i64 q, .slice w6a1 W'.length w6c1, .slice w6a2 F'.length w6c2, .slice w6a3 n' w6c3] 32))
  have PA_10 := hide (PA_9.out.below ab10.out)
  have Dd_10 := hide (Dd_9.out.below ab10.out)
  have T_10 := hide (T_9.out.below ab10.out)
  have X_10 := hide (X_9.out.below ab10.out)
  have XX_10 := hide (XX_9.out.below ab10.out)
  have XB_10 := hide (XB_9.out.below ab10.out)
  have Gg_10 := hide (Gg_9.out.below ab10.out)
  have U_10 := hide (Bx4.new w6 (.int .i64 q) (.slice w6a1 W'.length w6c1) (.slice w6a2 F'.length w6c2) (.slice w6a3 n' w6c3) 32)
  have B_10 := hide (below_next B_9.out ab10.out)
  have zb_10 : (w6.alloc (.cells #[.int .i64 q, .slice w6a1 W'.length w6c1, .slice w6a2 F'.length w6c2, .slice w6a3 n' w6c3] 32)).heap.size = w6.heap.size + 1 := by simp
  have ZB_10 := hide zb_10
  clear zb_10 PA_9 Dd_9 T_9 X_9 XX_9 XB_9 Gg_9 B_9 ab10
  obtain ⟨⟨Tt0, Tt1, Tt2, Tt3⟩, -, -, -, -⟩ := T_10.out
  obtain ⟨⟨Ut0, Ut1, Ut2, Ut3⟩, -, -, -, -⟩ := U_10.out
  go_wp2_with fail
  clear Tt0 Tt1 Tt2 Tt3 Ut0 Ut1 Ut2 Ut3
  generalize w6.alloc (.cells #[.int .i64 q, .slice w6a1 W'.length w6c1, .slice w6a2 F'.length w6c2, .slice w6a3 n' w6c3] 32) = V10 at *
  have zz_10 : w6.heap.size + 1 ≤ V10.heap.size := by have := ZB_10.out; omega
  clear ZB_10
  refine (eqFetchResult_same q w6a1 w3a1 w6c1 w3c1 W' w6a2 w3a2 w6c2 w3c2 F' w6a3 w3a3 w6c3 w3c3 n' D' P' V10 Gg_10.out.rd Dd_10.out.rd (by omega) (by omega) hn' HP2.out).mono ?_
  rintro e e10 ⟨rfl, be10⟩
  have z_11 : V10.heap.size ≤ e10.heap.size := be10.size
  have PA_11 := hide (PA_10.out.below be10)
  have Dd_11 := hide (Dd_10.out.below be10)
  have T_11 := hide (T_10.out.below be10)
  have X_11 := hide (X_10.out.below be10)
  have XX_11 := hide (XX_10.out.below be10)
  have XB_11 := hide (XB_10.out.below be10)
  have Gg_11 := hide (Gg_10.out.below be10)
  have U_11 := hide (U_10.out.below be10)
  have B_11 := hide (below_next B_10.out be10)
  clear PA_10 Dd_10 T_10 X_10 XX_10 XB_10 Gg_10 U_10 B_10 be10
  have KB : Hid (∀ u : World, Below e10.heap.size e10 u → (u.cell? ⟨w4.heap.size, 0, none⟩ = some (.slice (some ⟨x1, 0, none⟩) W.length W.length) ∧ u.cell? ⟨w4.heap.size, 1, none⟩ = some (.slice (some ⟨x2, 0, none⟩) F.length F.length) ∧ u.cell? ⟨w4.heap.size, 2, none⟩ = some (.slice (some ⟨x3, 0, none⟩) n n)) ∧ u.cell? ⟨w.heap.size, 0, none⟩ = some (.slice wa W.length wc) ∧ u.cell? ⟨w.heap.size, 1, none⟩ = some (.slice fa F.length fc) ∧ u.cell? ⟨w.heap.size, 2, none⟩ = some (.slice ca n cc)) := hide (fun u hu => ⟨(XX_11.out.below hu).1, (PA_11.out.below hu).1⟩)
  have HEQ : Hid (∀ (k1 k2 k3 : Nat) (u : World), RdF u (some ⟨k1, 0, none⟩) W (some ⟨k2, 0, none⟩) F (some ⟨k3, 0, none⟩) D P n → Below e10.heap.size e10 u → Calls Tryz.prog 27 #[.agg #[.slice (some ⟨x1, 0, none⟩) W.length W.length, .slice (some ⟨x2, 0, none⟩) F.length F.length, .slice (some ⟨x3, 0, none⟩) n n], .agg #[.slice (some ⟨k1, 0, none⟩) W.length W.length, .slice (some ⟨k2, 0, none⟩) F.length F.length, .slice (some ⟨k3, 0, none⟩) n n]] u fun e w' => e = .returned (.bool true) ∧ Below u.heap.size u w') := hide (fun k1 k2 k3 u hr hu => by
    have := eqFetch_same (some ⟨x1, 0, none⟩) (some ⟨k1, 0, none⟩) W.length W.length W (some ⟨x2, 0, none⟩) (some ⟨k2, 0, none⟩) F.length F.length F (some ⟨x3, 0, none⟩) (some ⟨k3, 0, none⟩) n n n D P u (X_11.out.below hu).rd hr hW hF hn HPl.out
    unfold fetV at this
    exact this)
  go_wp2_with fail
  obtain ⟨⟨q0, q1, q2⟩, q3, q4, q5⟩ := KB.out e10 (Below.refl _ _)
  go_region_held3 (fun u => (u.cell? ⟨w4.heap.size, 0, none⟩ = some (.slice (some ⟨x1, 0, none⟩) W.length W.length) ∧ u.cell? ⟨w4.heap.size, 1, none⟩ = some (.slice (some ⟨x2, 0, none⟩) F.length F.length) ∧ u.cell? ⟨w4.heap.size, 2, none⟩ = some (.slice (some ⟨x3, 0, none⟩) n n)) ∧ u.cell? ⟨w.heap.size, 0, none⟩ = some (.slice wa W.length wc) ∧ u.cell? ⟨w.heap.size, 1, none⟩ = some (.slice fa F.length fc) ∧ u.cell? ⟨w.heap.size, 2, none⟩ = some (.slice ca n cc)) (first | exact KB.out _ BB2.out | exact KB.out _ BB1.out | exact KB.out _ (Below.refl _ _).drew | go_keep)
    ((first
      | (go_at_call 25; refine (HT.out _ (below_next B_11.out (Below.refl _ _).drew)).mono ?_; rintro r wr1 ⟨k1, k2, k3, rfl, hr6, hb6⟩; have BB1 := hide ((Below.refl e10.heap.size e10).drew.trans hb6); have R6 := hide hr6.rd; clear hr6 hb6)
      | (go_at_call 27; refine (HEQ.out k1 k2 k3 _ R6.out BB1.out).mono ?_; rintro r wr2 ⟨rfl, hb7⟩; have BB2 := hide (below_next BB1.out hb7); clear hb7)))
  clear q0 q1 q2 q3 q4 q5 KB HEQ R6 BB1
  have bwr2 := BB2.out
  clear BB2
  have z_12 : e10.heap.size ≤ wr2.heap.size := bwr2.size
  have PA_12 := hide (PA_11.out.below bwr2)
  have Dd_12 := hide (Dd_11.out.below bwr2)
  have T_12 := hide (T_11.out.below bwr2)
  have X_12 := hide (X_11.out.below bwr2)
  have XX_12 := hide (XX_11.out.below bwr2)
  have XB_12 := hide (XB_11.out.below bwr2)
  have Gg_12 := hide (Gg_11.out.below bwr2)
  have U_12 := hide (U_11.out.below bwr2)
  have B_12 := hide (below_next B_11.out bwr2)
  clear PA_11 Dd_11 T_11 X_11 XX_11 XB_11 Gg_11 U_11 B_11 bwr2
  go_wp2_with fail
  refine (HTB.out wr2 B_12.out).mono ?_
  rintro e w8 ⟨vb, rfl, hlw8, huw8, ow8, bw8⟩
  have z_13 : wr2.heap.size ≤ w8.heap.size := bw8.size
  have PA_13 := hide (PA_12.out.below bw8)
  have Dd_13 := hide (Dd_12.out.below bw8)
  have T_13 := hide (T_12.out.below bw8)
  have X_13 := hide (X_12.out.below bw8)
  have XX_13 := hide (XX_12.out.below bw8)
  have XB_13 := hide (XB_12.out.below bw8)
  have Gg_13 := hide (Gg_12.out.below bw8)
  have U_13 := hide (U_12.out.below bw8)
  have B_13 := hide (below_next B_12.out bw8)
  have VB_13 := hide ow8
  clear ow8
  clear PA_12 Dd_12 T_12 X_12 XX_12 XB_12 Gg_12 U_12 B_12 bw8
  go_wp2_with fail
  refine (eqByteS_b _ _ _ _ zs w8 XB_13.out.reads VB_13.out.reads hzl).mono ?_
  rintro e w8b ⟨rfl, bw8b⟩
  have z_14 : w8.heap.size ≤ w8b.heap.size := bw8b.size
  have PA_14 := hide (PA_13.out.below bw8b)
  have Dd_14 := hide (Dd_13.out.below bw8b)
  have T_14 := hide (T_13.out.below bw8b)
  have X_14 := hide (X_13.out.below bw8b)
  have XX_14 := hide (XX_13.out.below bw8b)
  have XB_14 := hide (XB_13.out.below bw8b)
  have Gg_14 := hide (Gg_13.out.below bw8b)
  have U_14 := hide (U_13.out.below bw8b)
  have VB_14 := hide (VB_13.out.below bw8b)
  have B_14 := hide (below_next B_13.out bw8b)
  clear PA_13 Dd_13 T_13 X_13 XX_13 XB_13 Gg_13 U_13 VB_13 B_13 bw8b
  clear VB_14
  obtain ⟨⟨XXt0, XXt1, XXt2⟩, -, -, -⟩ := XX_14.out
  go_wp2_with fail
  clear XXt0 XXt1 XXt2
  have HM := hide (markFetch_any _ _ (some ⟨x1, 0, none⟩) W.length W (some ⟨x2, 0, none⟩) F.length F (some ⟨x3, 0, none⟩) n n D P 1 w8b X_14.out (by omega) (by decide) (by decide) hW hF hn hah)
  unfold fetV at HM
  refine HM.out.mono ?_
  rintro e w9 ⟨rfl, -, k9⟩
  clear HM
  have hzw : w.heap.size + 1 ≤ W0.heap.size := HZW.out
  have z_15 : w8b.heap.size ≤ w9.heap.size := k9.size
  have PA_15 := hide (PA_14.out.kept k9 (fun hS => by omega))
  have Dd_15 := hide (Dd_14.out.kept k9 (fun b h1 h2 hS => by omega))
  have T_15 := hide (T_14.out.kept k9 (fun hS => by omega))
  have XB_15 := hide (XB_14.out.kept k9 (fun b hb hS => by simp only [blkOf, Option.map_some, Option.some.injEq] at hb; omega))
  have Gg_15 := hide (Gg_14.out.kept k9 (fun b h1 h2 hS => by omega))
  have U_15 := hide (U_14.out.kept k9 (fun hS => by omega))
  have B_15 := hide (B_14.out.trans (k9.below B_14.out.size (fun j hj hS => by omega)))
  clear k9 PA_14 Dd_14 T_14 XB_14 Gg_14 U_14 X_14 XX_14 B_14
  go_wp2_with fail
  refine (markByteS_any _ _ zs (1 + 2 * (W.length : Int) + F.length + n + ahead P n) w9 XB_15.out (by omega) (by omega) (by omega)).mono ?_
  rintro e w9b ⟨rfl, -, k9b0, -⟩
  have k9b : Kept (fun b => b = xb) w9 w9b := k9b0.mono (fun b _ hb => by simpa [blkOf, eq_comm] using hb)
  clear k9b0
  have z_16 : w9.heap.size ≤ w9b.heap.size := k9b.size
  have PA_16 := hide (PA_15.out.kept k9b (fun hS => by omega))
  have Dd_16 := hide (Dd_15.out.kept k9b (fun b h1 h2 hS => by omega))
  have T_16 := hide (T_15.out.kept k9b (fun hS => by omega))
  have Gg_16 := hide (Gg_15.out.kept k9b (fun b h1 h2 hS => by omega))
  have U_16 := hide (U_15.out.kept k9b (fun hS => by omega))
  have B_16 := hide (B_15.out.trans (k9b.below B_15.out.size (fun j hj hS => by omega)))
  clear k9b PA_15 Dd_15 T_15 Gg_15 U_15 XB_15 B_15
  have hkk : ¬ ((1 + 2 * (W.length : Int) + F.length + n + ahead P n) + zs.length) < 0 := by omega
  have hkd : decide (((1 + 2 * (W.length : Int) + F.length + n + ahead P n) + zs.length) < 0) = false := decide_eq_false hkk
  obtain ⟨⟨Tt0, Tt1, Tt2, Tt3⟩, -, -, -, -⟩ := T_16.out
  obtain ⟨⟨Ut0, Ut1, Ut2, Ut3⟩, -, -, -, -⟩ := U_16.out
  go_wp2_with fail
  clear Tt0 Tt1 Tt2 Tt3 Ut0 Ut1 Ut2 Ut3
  refine (eqFetchResult_same q w6a1 w3a1 w6c1 w3c1 W' w6a2 w3a2 w6c2 w3c2 F' w6a3 w3a3 w6c3 w3c3 n' D' P' w9b Gg_16.out.rd Dd_16.out.rd (by omega) (by omega) hn' HP2.out).mono ?_
  rintro e e16 ⟨rfl, be16⟩
  have z_17 : w9b.heap.size ≤ e16.heap.size := be16.size
  have PA_17 := hide (PA_16.out.below be16)
  have Dd_17 := hide (Dd_16.out.below be16)
  have T_17 := hide (T_16.out.below be16)
  have Gg_17 := hide (Gg_16.out.below be16)
  have U_17 := hide (U_16.out.below be16)
  have B_17 := hide (below_next B_16.out be16)
  clear PA_16 Dd_16 T_16 Gg_16 U_16 B_16 be16
  obtain ⟨⟨Ut0, Ut1, Ut2, Ut3⟩, -, -, -, -⟩ := U_17.out
  go_wp2_with fail
  clear Ut0 Ut1 Ut2 Ut3
  refine (markFetchResult_any q _ _ w6a1 w6c1 W' w6a2 w6c2 F' w6a3 w6c3 n' D' P' e16 Gg_17.out (by omega) hW' hF' hn' ha').mono ?_
  rintro e w11 ⟨rfl, g11, k11⟩
  have z_18 : e16.heap.size ≤ w11.heap.size := k11.size
  have PA_18 := hide (PA_17.out.kept k11 (fun hS => by omega))
  have Dd_18 := hide (Dd_17.out.kept k11 (fun b h1 h2 hS => by omega))
  have T_18 := hide (T_17.out.kept k11 (fun hS => by omega))
  have Gg_18 := hide (g11)
  have U_18 := hide (U_17.out.kept k11 (fun hS => by omega))
  have B_18 := hide (B_17.out.trans (k11.below B_17.out.size (fun j hj hS => by omega)))
  clear k11 PA_17 Dd_17 T_17 Gg_17 U_17 B_17
  clear g11
  have hmv : ¬ (1 + 2 * (W'.length : Int) + F'.length + n' + ahead P' n') < 0 := by omega
  obtain ⟨⟨Ut0, Ut1, Ut2, Ut3⟩, -, -, -, -⟩ := U_18.out
  go_wp2_with fail
  clear Ut0 Ut1 Ut2 Ut3
  refine (heldFetchResult_any q w6a1 w6c1 W'.length w6a2 w6c2 F'.length w6a3 w6c3 n' P' w11 Gg_18.out.rd hW' hF' hn' ha').mono ?_
  rintro e h18 ⟨rfl, bh18⟩
  have z_19 : w11.heap.size ≤ h18.heap.size := bh18.size
  have PA_19 := hide (PA_18.out.below bh18)
  have Dd_19 := hide (Dd_18.out.below bh18)
  have T_19 := hide (T_18.out.below bh18)
  have Gg_19 := hide (Gg_18.out.below bh18)
  have U_19 := hide (U_18.out.below bh18)
  have B_19 := hide (below_next B_18.out bh18)
  clear PA_18 Dd_18 T_18 Gg_18 U_18 B_18 bh18
  obtain ⟨⟨PAt0, PAt1, PAt2⟩, -, -, -⟩ := PA_19.out
  go_wp2_with fail
  clear PAt0 PAt1 PAt2
  refine (HT.out h18 B_19.out).mono ?_
  rintro e w13 ⟨z1, z2, z3, rfl, gw13, bw13⟩
  have z_20 : h18.heap.size ≤ w13.heap.size := bw13.size
  have PA_20 := hide (PA_19.out.below bw13)
  have Dd_20 := hide (Dd_19.out.below bw13)
  have T_20 := hide (T_19.out.below bw13)
  have Gg_20 := hide (Gg_19.out.below bw13)
  have U_20 := hide (U_19.out.below bw13)
  have B_20 := hide (below_next B_19.out bw13)
  have Z_20 := hide gw13
  clear gw13
  clear PA_19 Dd_19 T_19 Gg_19 U_19 B_19 bw13
  go_wp2_with fail
  refine (HTB.out w13 B_20.out).mono ?_
  rintro e w13b ⟨zb, rfl, hlw13b, huw13b, ow13b, bw13b⟩
  have z_21 : w13.heap.size ≤ w13b.heap.size := bw13b.size
  have PA_21 := hide (PA_20.out.below bw13b)
  have Dd_21 := hide (Dd_20.out.below bw13b)
  have T_21 := hide (T_20.out.below bw13b)
  have Gg_21 := hide (Gg_20.out.below bw13b)
  have U_21 := hide (U_20.out.below bw13b)
  have Z_21 := hide (Z_20.out.below bw13b)
  have B_21 := hide (below_next B_20.out bw13b)
  have ZB_21 := hide ow13b
  clear ow13b
  clear PA_20 Dd_20 T_20 Gg_20 U_20 Z_20 B_20 bw13b
  go_wp2_with fail
  refine (HIm.out z1 z2 z3 zb w13b B_21.out Z_21.out.rd ZB_21.out.reads).mono ?_
  rintro e w14 hresw14
  obtain ⟨w14a1, w14c1, w14a2, w14c2, w14a3, w14c3, rfl, gw14, bw14⟩ := hresw14.gf
  clear hresw14
  have z_22 : w13b.heap.size ≤ w14.heap.size := bw14.size
  have PA_22 := hide (PA_21.out.below bw14)
  have Dd_22 := hide (Dd_21.out.below bw14)
  have T_22 := hide (T_21.out.below bw14)
  have Gg_22 := hide (Gg_21.out.below bw14)
  have U_22 := hide (U_21.out.below bw14)
  have Z_22 := hide (Z_21.out.below bw14)
  have ZB_22 := hide (ZB_21.out.below bw14)
  have B_22 := hide (below_next B_21.out bw14)
  have Hh_22 := hide gw14
  clear gw14
  clear PA_21 Dd_21 T_21 Gg_21 U_21 Z_21 ZB_21 B_21 bw14
  clear Z_22 ZB_22
  have ab23 := hide (below_alloc w14 (.cells #[.int .i64 q, .slice w14a1 W'.length w14c1, .slice w14a2 F'.length w14c2, .slice w14a3 n' w14c3] 32))
  have PA_23 := hide (PA_22.out.below ab23.out)
  have Dd_23 := hide (Dd_22.out.below ab23.out)
  have T_23 := hide (T_22.out.below ab23.out)
  have Gg_23 := hide (Gg_22.out.below ab23.out)
  have U_23 := hide (U_22.out.below ab23.out)
  have Hh_23 := hide (Hh_22.out.below ab23.out)
  have Q_23 := hide (Bx4.new w14 (.int .i64 q) (.slice w14a1 W'.length w14c1) (.slice w14a2 F'.length w14c2) (.slice w14a3 n' w14c3) 32)
  have B_23 := hide (below_next B_22.out ab23.out)
  have zb_23 : (w14.alloc (.cells #[.int .i64 q, .slice w14a1 W'.length w14c1, .slice w14a2 F'.length w14c2, .slice w14a3 n' w14c3] 32)).heap.size = w14.heap.size + 1 := by simp
  have ZB_23 := hide zb_23
  clear zb_23 PA_22 Dd_22 T_22 Gg_22 U_22 Hh_22 B_22 ab23
  obtain ⟨⟨Tt0, Tt1, Tt2, Tt3⟩, -, -, -, -⟩ := T_23.out
  obtain ⟨⟨Qt0, Qt1, Qt2, Qt3⟩, -, -, -, -⟩ := Q_23.out
  go_wp2_with fail
  clear Tt0 Tt1 Tt2 Tt3 Qt0 Qt1 Qt2 Qt3
  generalize w14.alloc (.cells #[.int .i64 q, .slice w14a1 W'.length w14c1, .slice w14a2 F'.length w14c2, .slice w14a3 n' w14c3] 32) = V23 at *
  have zz_23 : w14.heap.size + 1 ≤ V23.heap.size := by have := ZB_23.out; omega
  clear ZB_23
  refine (eqFetchResult_same q w14a1 w3a1 w14c1 w3c1 W' w14a2 w3a2 w14c2 w3c2 F' w14a3 w3a3 w14c3 w3c3 n' D' P' V23 Hh_23.out.rd Dd_23.out.rd (by omega) (by omega) hn' HP2.out).mono ?_
  rintro e e23 ⟨rfl, be23⟩
  have z_24 : V23.heap.size ≤ e23.heap.size := be23.size
  have PA_24 := hide (PA_23.out.below be23)
  have Dd_24 := hide (Dd_23.out.below be23)
  have T_24 := hide (T_23.out.below be23)
  have Gg_24 := hide (Gg_23.out.below be23)
  have U_24 := hide (U_23.out.below be23)
  have Hh_24 := hide (Hh_23.out.below be23)
  have Q_24 := hide (Q_23.out.below be23)
  have B_24 := hide (below_next B_23.out be23)
  clear PA_23 Dd_23 T_23 Gg_23 U_23 Hh_23 Q_23 B_23 be23
  obtain ⟨⟨Ut0, Ut1, Ut2, Ut3⟩, -, -, -, -⟩ := U_24.out
  go_wp2_with fail
  clear Ut0 Ut1 Ut2 Ut3
  refine (heldFetchResult_any q w6a1 w6c1 W'.length w6a2 w6c2 F'.length w6a3 w6c3 n' P' e23 Gg_24.out.rd hW' hF' hn' ha').mono ?_
  rintro e h24 ⟨rfl, bh24⟩
  have z_25 : e23.heap.size ≤ h24.heap.size := bh24.size
  have PA_25 := hide (PA_24.out.below bh24)
  have Dd_25 := hide (Dd_24.out.below bh24)
  have T_25 := hide (T_24.out.below bh24)
  have Gg_25 := hide (Gg_24.out.below bh24)
  have U_25 := hide (U_24.out.below bh24)
  have Hh_25 := hide (Hh_24.out.below bh24)
  have Q_25 := hide (Q_24.out.below bh24)
  have B_25 := hide (below_next B_24.out bh24)
  clear PA_24 Dd_24 T_24 Gg_24 U_24 Hh_24 Q_24 B_24 bh24
  go_wp2_with fail
  go_ret
  exact ⟨rfl, B_25.out⟩
set_option maxRecDepth 100000 in
set_option maxHeartbeats 1600000 in
theorem big (w : World) (wa : Option Addr) (wc : Nat) (W : List Wn) (fa : Option Addr) (fc : Nat) (F : List Int) (ca : Option Addr) (cc n : Nat) (D : Nat → Int) (P : Nat → List Int) (h : RdF w wa W fa F ca D P n) (hmax : W.length ≤ maxLen ∧ F.length ≤ maxLen ∧ n ≤ maxLen) (hin : ∀ i, i < n → (P i).length ≤ maxLen) (d : Int) (da : Option Addr) (dc : Nat) (zs : List Int) (hl : zs.length ≤ 1048576) (hfit : ¬ (W.length : Int) + F.length + n + ahead P n ≤ 1048576) :
    Calls Tryz.prog 6 #[.agg #[.slice wa W.length wc, .slice fa F.length fc, .slice ca n cc], .int .i64 d, .slice da zs.length dc] w fun e w' => e = .returned (.bool true) ∧ Below w.heap.size w w' := by
  have B0 := hide (below_alloc w (.cells #[.slice wa W.length wc, .slice fa F.length fc, .slice ca n cc] 51))
  have X0 := hide (Bx3.new w (.slice wa W.length wc) (.slice fa F.length fc) (.slice ca n cc) 51)
  have HS := hide (szFetch_not wa wc W fa fc F ca cc n D P _ (h.below B0.out) hmax.1 hmax.2.1 hmax.2.2 (fun i hi => by have := hin i hi; unfold maxLen at this; omega) hfit)
  unfold fetV at HS
  have hbz : ¬ (1048576 : Int) < (zs.length : Int) := by omega
  clear h hin hmax hfit
  go_enter Tryz.func6, Tryz.ntmps6
  obtain ⟨⟨t0, t1, t2⟩, -, -, -⟩ := X0.out
  go_wp2_with fail
  refine HS.out.mono ?_
  rintro e w1 ⟨rfl, b1⟩
  have B1 := hide (below_next B0.out b1)
  clear b1 t0 t1 t2
  go_wp2_with fail
  go_ret
  exact ⟨rfl, B1.out⟩
set_option maxRecDepth 100000 in
set_option maxHeartbeats 1600000 in
theorem long (w : World) (wa : Option Addr) (wc : Nat) (W : List Wn) (fa : Option Addr) (fc : Nat) (F : List Int) (ca : Option Addr) (cc n : Nat) (d : Int) (da : Option Addr) (dc : Nat) (zs : List Int) (hl : ¬ zs.length ≤ 1048576) :
    Calls Tryz.prog 6 #[.agg #[.slice wa W.length wc, .slice fa F.length fc, .slice ca n cc], .int .i64 d, .slice da zs.length dc] w fun e w' => e = .returned (.bool true) ∧ Below w.heap.size w w' := by
  have B0 := hide (below_alloc w (.cells #[.slice wa W.length wc, .slice fa F.length fc, .slice ca n cc] 51))
  have hbz : (1048576 : Int) < (zs.length : Int) := by omega
  go_enter Tryz.func6, Tryz.ntmps6
  go_wp2_with fail
  go_ret
  exact ⟨rfl, B0.out⟩
theorem walk (w : World) (a0 a1 : Addr) (hg : Ge w a0 a1) (wa : Option Addr) (wc : Nat) (W : List Wn) (fa : Option Addr) (fc : Nat) (F : List Int) (ca : Option Addr) (cc n : Nat) (D : Nat → Int) (P : Nat → List Int) (h : RdF w wa W fa F ca D P n) (hmax : W.length ≤ maxLen ∧ F.length ≤ maxLen ∧ n ≤ maxLen) (hin : ∀ i, i < n → (Lit.int .i64 (D i)).wf = true ∧ U8 (P i) ∧ (P i).length ≤ maxLen) (d : Int) (hdw : (Lit.int .i64 d).wf = true) (da : Option Addr) (dc : Nat) (zs : List Int) (hr : Reads .u8 w da zs) (hu : U8 zs) (hzm : zs.length ≤ maxLen) :
    Calls Tryz.prog 6 #[.agg #[.slice wa W.length wc, .slice fa F.length fc, .slice ca n cc], .int .i64 d, .slice da zs.length dc] w fun e w' => e = .returned (.bool true) ∧ Below w.heap.size w w' := by
  have hu8 := hu
  by_cases hl : zs.length ≤ 1048576
  case neg => exact long w wa wc W fa fc F ca cc n d da dc zs hl
  by_cases hfit : (W.length : Int) + F.length + n + ahead P n ≤ 1048576
  · have hW : W.length ≤ 1048576 := by omega
    have hF : F.length ≤ 1048576 := by omega
    have hn : n ≤ 1048576 := by omega
    have hP : SmallP P n := fun i hi => ⟨(hin i hi).2.1, by have := ahead_le P (i := i + 1) (j := n) (by omega); simp only [ahead] at this; omega⟩
    obtain ⟨q, W', F', D', P', n', hB, hsp, him⟩ := hear_both W F D P n d zs hn hP hW hF hu8 hl
    exact core w wa wc W fa fc F ca cc n D P h hfit d da dc zs hr hl q W' F' D' P' n' hB.bw hB.bf hB.bn hB.bp hB.ba
      (fun x1 x2 x3 x4 u hu hrd hrb => hsp (some ⟨x1, 0, none⟩) W.length (some ⟨x2, 0, none⟩) F.length (some ⟨x3, 0, none⟩) n (some ⟨x4, 0, none⟩) zs.length u hrd (Nat.le_refl _) hrb)
      (fun x1 x2 x3 x4 u hu hrd hrb => him (some ⟨x1, 0, none⟩) W.length (some ⟨x2, 0, none⟩) F.length (some ⟨x3, 0, none⟩) n (some ⟨x4, 0, none⟩) zs.length u a0 a1 (hg.below hu) hrd hrb)
  · exact big w wa wc W fa fc F ca cc n D P h hmax (fun i hi => (hin i hi).2.2) d da dc zs hl hfit
end Go.Proofs.YtfamiehfpmjljaaGreatDoor.hearFetch

