/-
  Texts put together: FetZf FetAc FetAd Draw DrawP DrawS.
-/
import Derived.Test.YtejfcapocikjmaaGreatDoorKAsksCa16
import Derived.Test.YtejfcapocikjmaaGreatDoorKAsksCa15
import Derived.Test.YtejfcapocikjmaaGreatDoorKAsksCa1
import Derived.Test.YtejfcapocikjmaaGreatDoorKAsksCa6
namespace Go.Proofs.YtejfcapocikjmaaGreatDoor
open Go.RowKit Go.Maps
set_option linter.unusedVariables false
set_option maxRecDepth 100000 in
set_option maxHeartbeats 6400000 in
theorem specHearFetch_new (wa : Option Addr) (wk : Nat) (W : List Wn) (fa : Option Addr) (fc : Nat) (F : List Int) (ca : Option Addr) (cc n : Nat) (D : Nat → Int) (P : Nat → List Int) (d : Int) (w : World) (h : RdF w wa W fa F ca D P n) (hn : n ≤ 1048576) (hP : SmallP P n) (hWl : W.length ≤ 1048576) (hFl : F.length ≤ 1048576) (hfc : F.length ≤ fc) (da : Option Addr) (dc : Nat) (zs : List Int) (hr : Reads .u8 w da zs) (hu : U8 zs) (hl : zs.length ≤ 1048576) (hz : fetFault W F D P n = 0) (hPl : ∀ i, i < n → 0 < (P i).length ∧ (P i).length ≤ 1048576) (i : Nat) (t : Int) (hi : i < W.length) (hdi : W.getD i (0, 0) = (d, t)) (hfi : ∀ j, j < i → (W.getD j (0, 0)).1 ≠ d) (hO : oneFault d zs = 0) (hnk : ∀ j, j < n → D j ≠ d) (h40 : ¬ 40 ≤ n) (hzl : 0 < zs.length ∧ zs.length ≤ 1048576) (m : Nat) (hm : m ≤ n) (hlow : ∀ i, i < m → D i < d) (hhigh : m < n → ¬ D m < d) :
    Calls Tryz.prog 59 #[fetV wa W.length wk fa F.length fc ca n cc, .int .i64 d, .slice da zs.length dc] w (ResF 0 (W.eraseIdx i) F (ins D m d) (ins P m zs) (n + 1) w) := by
  have B0 := hide (below_next (below_alloc w (.cells #[.slice wa W.length wk, .slice fa F.length fc, .slice ca n cc] 28)) (below_alloc _ (.cells #[.int .i64 0, .slice none 0 0, .slice none 0 0, .slice none 0 0] 33)))
  have X0 := hide ((Bx3.new w (.slice wa W.length wk) (.slice fa F.length fc) (.slice ca n cc) 28).below (below_alloc _ (.cells #[.int .i64 0, .slice none 0 0, .slice none 0 0, .slice none 0 0] 33)))
  have R0 := hide (Bx4.new (w.alloc (.cells #[.slice wa W.length wk, .slice fa F.length fc, .slice ca n cc] 28)) (.int .i64 0) (.slice none 0 0) (.slice none 0 0) (.slice none 0 0) 33)
  have hs : (w.alloc (.cells #[.slice wa W.length wk, .slice fa F.length fc, .slice ca n cc] 28)).heap.size = w.heap.size + 1 := by simp
  rw [hs] at R0
  clear hs
  have HFF := hide (l10Fault_any w.heap.size wa wk W fa fc F ca cc n D P _ X0.out (h.below B0.out) hn hP hWl hFl hfc)
  rw [hz] at HFF
  have HAT := hide (fun (u : World) (hb : Below w.heap.size w u) (hX : Bx3 u w.heap.size (.slice wa W.length wk) (.slice fa F.length fc) (.slice ca n cc)) => l10At_yes w.heap.size wa wk i W d u hX.1.1 (h.wants.below hb) hWl hi (by rw [hdi]) hfi)
  have HCP := hide (fun (u : World) (hb : Below w.heap.size w u) => l10Copy_at wa wk W fa fc F ca cc n D P u (h.below hb) hn hPl hWl hFl)
  have HDI := hide hdi
  have HRB := hide (fun (u : World) (hb : Below w.heap.size w u) => hr.below hb)
  have HON := hide (fun (u : World) (hb : Below w.heap.size w u) => specOne_any d da dc zs u (hr.below hb) hu hl)
  rw [hO] at HON
  have HF1 := hide (And.intro hnk (And.intro hlow hhigh))
  have HZL := hide hzl
  clear hO hnk hlow hhigh hzl
  have hi9 : ¬ (i : Int) < 0 := by omega
  clear h hP hz hdi hfi hr hu
  unfold fetV at HCP ⊢
  go_enter Tryz.func59, Tryz.ntmps59
  go_wp2_with fail
  generalize (w.alloc (.cells #[.slice wa W.length wk, .slice fa F.length fc, .slice ca n cc] 28)).alloc (.cells #[.int .i64 0, .slice none 0 0, .slice none 0 0, .slice none 0 0] 33) = W0 at *
  refine HFF.out.mono ?_
  rintro e w1 ⟨rfl, hb1⟩
  have B1 := hide (below_next B0.out hb1)
  have X1 := hide (X0.out.below hb1)
  have R1 := hide (R0.out.below hb1)
  clear hb1 X0 R0 B0 HFF
  go_wp2_with fail
  refine (HAT.out w1 B1.out X1.out).mono ?_
  rintro e w1 ⟨rfl, rfl⟩
  obtain ⟨⟨t0, t1, t2⟩, -, -, -⟩ := X1.out
  go_wp2_with fail
  clear t0 t1 t2
  refine (HCP.out w1 B1.out).mono ?_
  rintro e w2 ⟨xa, xc, ya, yc, za, zc, T, rfl, hZA, hW2, hF2, hG2, hT2, hxT, hyT, hb2⟩
  have hzw := B1.out.size
  have hz2 := hb2.size
  have hr1 := R1.out.lt
  have B2 := hide (below_next (below_next B1.out hb2) (below_alloc w2 (.cells #[.slice xa W.length xc, .slice ya F.length yc, .slice za n zc] 28)))
  have A2 := hide (below_alloc w2 (.cells #[.slice xa W.length xc, .slice ya F.length yc, .slice za n zc] 28))
  have N2 := hide (Bx3.new w2 (.slice xa W.length xc) (.slice ya F.length yc) (.slice za n zc) 28)
  have R2 := hide ((R1.out.below hb2).below A2.out)
  have W2 := hide (hW2.below A2.out)
  have F2 := hide (ownsRow_below hF2 A2.out)
  have G2 := hide (hG2.below A2.out)
  have D2 : Hid (RdF (w2.alloc (.cells #[.slice xa W.length xc, .slice ya F.length yc, .slice za n zc] 28)) xa W ya F za D P n) := hide ⟨(hW2.below A2.out).rd, reads_owned (ownsRow_below hF2 A2.out) rfl, (hG2.rd).below A2.out⟩
  have hyl : ∀ b, (Value.slice ya F.length yc).ownBlock = some b → b < w2.heap.size := fun b hb => (hF2.lt b hb).2
  have hxl : ∀ b, (Value.slice xa W.length xc).ownBlock = some b → b < w2.heap.size := fun b hb => (World.ownsRow.lt hW2 b hb).2
  have hsz3 : (w2.alloc (.cells #[.slice xa W.length xc, .slice ya F.length yc, .slice za n zc] 28)).heap.size = w2.heap.size + 1 := by simp
  have HYX := hide (And.intro hyl (And.intro hxl (And.intro hxT hsz3)))
  have HYT := hide hyT
  clear hb2 hW2 hF2 hG2 R1 HCP HAT X1 hyl hxl hxT hyT hsz3
  go_wp2_with fail
  refine (HON.out _ B2.out).mono ?_
  rintro e w3 ⟨rfl, mq, hmq⟩
  have bq := hide (below_drewN (Below.refl (w2.alloc (.cells #[.slice xa W.length xc, .slice ya F.length yc, .slice za n zc] 28)).heap.size (w2.alloc (.cells #[.slice xa W.length xc, .slice ya F.length yc, .slice za n zc] 28))) mq)
  rw [← hmq] at bq
  have N3 := hide (N2.out.below bq.out)
  have R3 := hide (R2.out.below bq.out)
  have W3 := hide (OwnW.below W2.out bq.out)
  have F3 := hide (ownsRow_below F2.out bq.out)
  have G3 := hide (G2.out.below bq.out)
  have B3 := hide (below_next B2.out bq.out)
  have hsz := bq.out.size
  have HSZ := hide hsz
  clear hmq N2 R2 W2 F2 G2 D2 B2 HON bq hsz
  have HZX : Hid (w2.heap.size + 1 ≤ w3.heap.size) := hide (by have := HSZ.out; have := HYX.out.2.2.2; omega)
  clear HSZ
  obtain ⟨zg, hzg, hzc⟩ := hZA
  subst hzg
  obtain ⟨i1, kj, kw0, kw1, kw2⟩ := info_parts Tryz.infoWn
  have HPT := hide (l2Put_new zg 0 zc n m D P d da dc zs w3 G3.out.rd hzc (by omega) hPl (HRB.out _ B3.out) HZL.out HF1.out.1 hm HF1.out.2.1 (fun h => by have := HF1.out.2.2 h; omega))
  obtain ⟨⟨s0, s1, s2⟩, -, -, -⟩ := N3.out
  go_wp2_with fail
  refine HPT.out.mono ?_
  rintro e w4 ⟨av, cv, rfl, hG4, hb4⟩
  have hz4 := hb4.size
  have K5 := hide (Kept.one w4 w2.heap.size 2 (.slice av (n + 1) cv))
  have X5 := hide ((N3.out.below hb4).set2 (.slice av (n + 1) cv))
  have R5 := hide ((R3.out.below hb4).kept K5.out (by omega))
  have B5 := hide ((below_next B3.out hb4).trans (K5.out.below (B := w.heap.size) (below_next B3.out hb4).size (fun k hk e => by omega)))
  have O5 : Hid ((w4.setCell ⟨w2.heap.size, 2, none⟩ (.slice av (n + 1) cv)).ownsRow w1.heap.size 78 2 (.slice xa W.length xc) W.length (flat W.length (laidW W.length W))) := hide (ownsRow_kept (ownsRow_below W3.out hb4) K5.out (fun b hb e => by have := HYX.out.2.1 b hb; omega))
  have F5 := hide (ownsRow_kept (ownsRow_below F3.out hb4) K5.out (fun b hb e => by have := HYX.out.1 b hb; omega))
  have FL5 := hide HYX.out.1
  have G5 := hide (hG4.kept K5.out (fun b h1 h2 e => by have := HZX.out; omega))
  have hz5 : (w4.setCell ⟨w2.heap.size, 2, none⟩ (.slice av (n + 1) cv)).heap.size = w4.heap.size := by simp [World.setCell]
  have HZ5 := hide hz5
  obtain ⟨⟨q0, q1, q2⟩, q3, q4, q5⟩ := N3.out.below hb4
  clear s0 s1 s2 hG4 hb4 hz5 N3 R3 B3 W3 F3 G3 HPT
  go_upto_region 17 with fail
  clear q0 q1 q2 q3 q4 q5 K5
  generalize w4.setCell ⟨w2.heap.size, 2, none⟩ (.slice av (n + 1) cv) = WW at *
  have hz5 : w4.heap.size ≤ WW.heap.size := by have := HZ5.out; omega
  have hfb5 : w2.heap.size < WW.heap.size := by have := HZX.out; omega
  obtain ⟨M, hM⟩ : ∃ M, M = (W.eraseIdx i).length := ⟨_, rfl⟩
  have HM := hide hM
  have hk0 : (0 : Int) ≤ (i : Int) := by omega
  have hk0' : (0 : Int) ≤ (i : Int) + 1 := by omega
  have hwr1 : IntKind.i64.wrap ((i : Int) + 1) = (i : Int) + 1 := by simp [IntKind.wrap, IntKind.signed, IntKind.bits]; omega
  have htn : ((i : Int) + 1).toNat = i + 1 := by omega
  have hI2 : (i : Int) + 1 ≤ (W.length : Int) := by omega
  have hI4 : (i : Int) ≤ (W.length : Int) := by omega
  clear hM
  obtain ⟨g, hg, hcw⟩ := ownsRow_addr O5.out (.inl (by omega))
  subst hg
  have hg5 : g < WW.heap.size := (O5.out.lt g rfl).2
  by_cases hc : xc = i + 1
  · subst hc
    have hlW : W.length ≤ i + 1 := hcw
    have CE5 := hide (ownW_cells O5.out rfl)
    have A5 := hide (below_alloc WW (.cells #[] 78)).drew
    have OWN0 : Hid ((WW.alloc (.cells #[] 78)).drew.ownsRow WW.heap.size 78 2 (.slice (some ⟨WW.heap.size, 0, none⟩) 0 0) 0 []) := hide (made_at rfl (Nat.le_refl _))
    have NEWS0 : Hid (∀ j u, (flat i (laidW W.length W))[j]? = some u → (WW.alloc (.cells #[] 78)).drew.cell? ((⟨g, 0, none⟩ : Addr).add j) = some u) := hide (fun j u hj => by
        rw [addr_add, Nat.zero_add]
        exact (A5.out.cell (p := ⟨g, j, none⟩) hg5).trans (CE5.out j u (take_flat W i (by omega) j u hj)))
    have NEWS2 : Hid (∀ w3 : World, Below WW.heap.size WW w3 → ∀ j u, ((flat W.length (laidW W.length W)).drop ((i + 1) * 2))[j]? = some u → w3.cell? ((⟨g, 0, none⟩ : Addr).add j) = some u) := hide (fun w3 hb3 j u hj => by
        rw [List.drop_eq_nil_of_le (by rw [flat_length (n := W.length) (k := 2) (F := laidW W.length W) (fun i _ => laidW_length _ _ _)]; omega)] at hj
        simp at hj)
    have HFl := hide (flat_length (n := i) (k := 2) (F := laidW W.length W) (fun i _ => laidW_length _ _ _))
    have HFn : Hid (((flat W.length (laidW W.length W)).drop ((i + 1) * 2)).length = 0 * 2) := hide (by rw [List.length_drop, flat_length (n := W.length) (k := 2) (F := laidW W.length W) (fun i _ => laidW_length _ _ _)]; omega)
    have hm0 : 0 + i ≤ maxLen := by unfold maxLen; omega
    have hm0' : (0 + i) * 16 ≤ 140737488355328 := by omega
    have HN : Hid (i + 0 = M) := hide (by have := HM.out; have := erase_len hi; omega)
    have hm2 : i + 0 ≤ maxLen := by unfold maxLen; omega
    have hm2' : (i + 0) * 16 ≤ 140737488355328 := by omega
    have hI1 : (i : Int) ≤ ((i : Int) + 1 : Int) := by omega
    have hI3 : (W.length : Int) ≤ ((i : Int) + 1 : Int) := by omega
    have HON2 := hide (fun u (hu : u ∈ (flat W.length (laidW W.length W)).drop ((i + 1) * 2)) => flatW_one W u (List.mem_of_mem_drop hu))
    obtain ⟨⟨x0, x1, x2⟩, x3, x4, x5⟩ := X5.out
    go_region_law
      ((first
        | (refine step_append_own (by rfl) (.tmp 50) (.tmp 54) 24 (by rfl) WW.heap.size 78 i1 (.agg #[.int .i64 0, .int .i64 0]) 2 16 Tryz.underlying24 kj kw0 kw1 kw2 rfl (by decide) (.slice (some ⟨WW.heap.size, 0, none⟩) 0 0) 0 [] (by rfl) OWN0.out ⟨g, 0, none⟩ i (i + 1) (flat i (laidW W.length W)) (by rfl) HFl.out NEWS0.out (oneW W i) i (by simp) hm0 hm0' A5.out.size ?_; intro av1 cv1 w6 hown3 hk3; have O3 := hide hown3; have BB3 := hide (A5.out.trans (hk3.below A5.out.size (fun q hq hS => by simp [Value.ownBlock] at hS; omega))); clear hown3 hk3; obtain ⟨⟨y0, y1, y2⟩, y3, y4, y5⟩ := X5.out.below BB3.out)
        | (refine step_append_own (by rfl) (.tmp 55) (.tmp 60) 24 (by rfl) WW.heap.size 78 i1 (.agg #[.int .i64 0, .int .i64 0]) 2 16 Tryz.underlying24 kj kw0 kw1 kw2 rfl (by decide) (.slice av1 i cv1) i ([] ++ flat i (laidW W.length W)) (by rfl) O3.out ⟨g, 0, none⟩ 0 0 ((flat W.length (laidW W.length W)).drop ((i + 1) * 2)) (by rfl) HFn.out (NEWS2.out w6 BB3.out) HON2.out M HN.out hm2 hm2' BB3.out.size ?_; intro av3 cv3 w7 hown4 hk4; have O4 := hide hown4; have BB4 := hide (BB3.out.trans (hk4.below BB3.out.size (fun q hq hS => by have := (O3.out.lt q hS).1; omega))); clear hown4 hk4; obtain ⟨⟨v0, v1, v2⟩, v3, v4, v5⟩ := X5.out.below BB4.out; obtain ⟨⟨m0, m1, m2, m3⟩, k0, k1, k2, k3⟩ := R5.out.below BB4.out)))
    all_goals
      go_wp2_with fail
      have hk5 := Kept.one w7 w2.heap.size 0 (.slice av3 M cv3)
      have hz7 : (w7.setCell ⟨w2.heap.size, 0, none⟩ (.slice av3 M cv3)).heap.size = w7.heap.size := by simp [World.setCell]
      have hM := HM.out
      subst hM
      have W8 : OwnW w1.heap.size (w7.setCell ⟨w2.heap.size, 0, none⟩ (.slice av3 (W.eraseIdx i).length cv3)) (.slice av3 (W.eraseIdx i).length cv3) (W.eraseIdx i) := by
        have h8 := ownsRow_kept O4.out hk5 (fun b hb e => by have := (O4.out.lt b hb).1; omega)
        rw [List.nil_append, erase_flat W i hi] at h8
        exact ownsRow_mono h8 (by omega)
      have F8 := ownsRow_kept (ownsRow_below F5.out BB4.out) hk5 (fun b hb e => by have := FL5.out b hb; omega)
      have G8 := ((G5.out.below BB4.out).kept hk5 (fun b h1 h2 e => by have := HZX.out; omega)).mono (B' := w1.heap.size) (by have := HZX.out; omega)
      have hw4 := BB4.out.size
      exact bodyPost_ret (v := .agg #[.int .i64 0, .slice av3 (W.eraseIdx i).length cv3, .slice ya F.length yc, .slice av (n + 1) cv]) (by simp [results, Tryz.results59, go_sem, m0, m1, m2, m3]) rfl (ResF.box (B := w1.heap.size) W8 F8 (G8.wide (by rw [hz7]; omega)) ((below_next B5.out BB4.out).trans (hk5.below (B := w.heap.size) (below_next B5.out BB4.out).size (fun k hk e => by omega))) (by omega) (by omega))
  · have CE5 := hide (ownW_cells O5.out rfl)
    have A5 := hide (below_alloc WW (.cells #[] 78)).drew
    have OWN0 : Hid ((WW.alloc (.cells #[] 78)).drew.ownsRow WW.heap.size 78 2 (.slice (some ⟨WW.heap.size, 0, none⟩) 0 0) 0 []) := hide (made_at rfl (Nat.le_refl _))
    have NEWS0 : Hid (∀ j u, (flat i (laidW W.length W))[j]? = some u → (WW.alloc (.cells #[] 78)).drew.cell? ((⟨g, 0, none⟩ : Addr).add j) = some u) := hide (fun j u hj => by
        rw [addr_add, Nat.zero_add]
        exact (A5.out.cell (p := ⟨g, j, none⟩) hg5).trans (CE5.out j u (take_flat W i (by omega) j u hj)))
    have NEWS2 : Hid (∀ w3 : World, Below WW.heap.size WW w3 → ∀ j u, ((flat W.length (laidW W.length W)).drop ((i + 1) * 2))[j]? = some u → w3.cell? ((⟨g, (i + 1) * 2, none⟩ : Addr).add j) = some u) := hide (fun w3 hb3 j u hj => by
        rw [addr_add]
        rw [List.getElem?_drop] at hj
        exact (hb3.cell (p := ⟨g, (i + 1) * 2 + j, none⟩) hg5).trans (CE5.out _ u hj))
    have HFl := hide (flat_length (n := i) (k := 2) (F := laidW W.length W) (fun i _ => laidW_length _ _ _))
    have HFn : Hid (((flat W.length (laidW W.length W)).drop ((i + 1) * 2)).length = (W.length - (i + 1)) * 2) := hide (by rw [List.length_drop, flat_length (n := W.length) (k := 2) (F := laidW W.length W) (fun i _ => laidW_length _ _ _)]; omega)
    have hm0 : 0 + i ≤ maxLen := by unfold maxLen; omega
    have hm0' : (0 + i) * 16 ≤ 140737488355328 := by omega
    have HN : Hid (i + (W.length - (i + 1)) = M) := hide (by have := HM.out; have := erase_len hi; omega)
    have hm2 : i + (W.length - (i + 1)) ≤ maxLen := by unfold maxLen; omega
    have hm2' : (i + (W.length - (i + 1))) * 16 ≤ 140737488355328 := by omega
    have hI1 : (i : Int) ≤ (xc : Int) := by omega
    have hI3 : (W.length : Int) ≤ (xc : Int) := by omega
    have HON2 := hide (fun u (hu : u ∈ (flat W.length (laidW W.length W)).drop ((i + 1) * 2)) => flatW_one W u (List.mem_of_mem_drop hu))
    obtain ⟨⟨x0, x1, x2⟩, x3, x4, x5⟩ := X5.out
    go_region_law
      ((first
        | (refine step_append_own (by rfl) (.tmp 50) (.tmp 54) 24 (by rfl) WW.heap.size 78 i1 (.agg #[.int .i64 0, .int .i64 0]) 2 16 Tryz.underlying24 kj kw0 kw1 kw2 rfl (by decide) (.slice (some ⟨WW.heap.size, 0, none⟩) 0 0) 0 [] (by rfl) OWN0.out ⟨g, 0, none⟩ i xc (flat i (laidW W.length W)) (by rfl) HFl.out NEWS0.out (oneW W i) i (by simp) hm0 hm0' A5.out.size ?_; intro av1 cv1 w6 hown3 hk3; have O3 := hide hown3; have BB3 := hide (A5.out.trans (hk3.below A5.out.size (fun q hq hS => by simp [Value.ownBlock] at hS; omega))); clear hown3 hk3; obtain ⟨⟨y0, y1, y2⟩, y3, y4, y5⟩ := X5.out.below BB3.out)
        | (refine step_append_own (by rfl) (.tmp 55) (.tmp 60) 24 (by rfl) WW.heap.size 78 i1 (.agg #[.int .i64 0, .int .i64 0]) 2 16 Tryz.underlying24 kj kw0 kw1 kw2 rfl (by decide) (.slice av1 i cv1) i ([] ++ flat i (laidW W.length W)) (by rfl) O3.out ⟨g, (i + 1) * 2, none⟩ (W.length - (i + 1)) (xc - (i + 1)) ((flat W.length (laidW W.length W)).drop ((i + 1) * 2)) (by rfl) HFn.out (NEWS2.out w6 BB3.out) HON2.out M HN.out hm2 hm2' BB3.out.size ?_; intro av3 cv3 w7 hown4 hk4; have O4 := hide hown4; have BB4 := hide (BB3.out.trans (hk4.below BB3.out.size (fun q hq hS => by have := (O3.out.lt q hS).1; omega))); clear hown4 hk4; obtain ⟨⟨v0, v1, v2⟩, v3, v4, v5⟩ := X5.out.below BB4.out; obtain ⟨⟨m0, m1, m2, m3⟩, k0, k1, k2, k3⟩ := R5.out.below BB4.out)))
    all_goals
      go_wp2_with fail
      have hk5 := Kept.one w7 w2.heap.size 0 (.slice av3 M cv3)
      have hz7 : (w7.setCell ⟨w2.heap.size, 0, none⟩ (.slice av3 M cv3)).heap.size = w7.heap.size := by simp [World.setCell]
      have hM := HM.out
      subst hM
      have W8 : OwnW w1.heap.size (w7.setCell ⟨w2.heap.size, 0, none⟩ (.slice av3 (W.eraseIdx i).length cv3)) (.slice av3 (W.eraseIdx i).length cv3) (W.eraseIdx i) := by
        have h8 := ownsRow_kept O4.out hk5 (fun b hb e => by have := (O4.out.lt b hb).1; omega)
        rw [List.nil_append, erase_flat W i hi] at h8
        exact ownsRow_mono h8 (by omega)
      have F8 := ownsRow_kept (ownsRow_below F5.out BB4.out) hk5 (fun b hb e => by have := FL5.out b hb; omega)
      have G8 := ((G5.out.below BB4.out).kept hk5 (fun b h1 h2 e => by have := HZX.out; omega)).mono (B' := w1.heap.size) (by have := HZX.out; omega)
      have hw4 := BB4.out.size
      exact bodyPost_ret (v := .agg #[.int .i64 0, .slice av3 (W.eraseIdx i).length cv3, .slice ya F.length yc, .slice av (n + 1) cv]) (by simp [results, Tryz.results59, go_sem, m0, m1, m2, m3]) rfl (ResF.box (B := w1.heap.size) W8 F8 (G8.wide (by rw [hz7]; omega)) ((below_next B5.out BB4.out).trans (hk5.below (B := w.heap.size) (below_next B5.out BB4.out).size (fun k hk e => by omega))) (by omega) (by omega))
end Go.Proofs.YtejfcapocikjmaaGreatDoor

namespace Go.Proofs.YtejfcapocikjmaaGreatDoor
open Go.RowKit Go.Maps
set_option linter.unusedVariables false
theorem place_of (D : Nat → Int) (d : Int) : ∀ n : Nat, ∃ m, m ≤ n ∧ (∀ i, i < m → D i < d) ∧ (m < n → ¬ D m < d)
  | 0 => ⟨0, Nat.le_refl _, fun i hi => by omega, fun h => by omega⟩
  | n + 1 => by
    obtain ⟨m, h1, h2, h3⟩ := place_of D d n
    by_cases h : m < n
    · exact ⟨m, by omega, h2, fun _ => h3 h⟩
    · have e : m = n := by omega
      subst e
      by_cases hd : D m < d
      · exact ⟨m + 1, Nat.le_refl _, fun i hi => by
          by_cases hi2 : i < m
          · exact h2 i hi2
          · have : i = m := by omega
            subst this
            exact hd, fun h => by omega⟩
      · exact ⟨m, by omega, h2, fun _ => hd⟩
end Go.Proofs.YtejfcapocikjmaaGreatDoor

namespace Go.Proofs.YtejfcapocikjmaaGreatDoor
open Go.RowKit Go.Maps
set_option linter.unusedVariables false
theorem getD_el {W : List Wn} {i : Nat} (hi : i < W.length) : W[i] = W.getD i (0, 0) := by rw [List.getD_eq_getElem?_getD, List.getElem?_eq_getElem hi]; rfl
theorem erase_mem {W : List Wn} {i : Nat} {x : Wn} (h : x ∈ W.eraseIdx i) : x ∈ W := List.mem_of_mem_eraseIdx h
theorem set_fst {W : List Wn} {i : Nat} {d t u : Int} (hi : i < W.length) (hd : W.getD i (0, 0) = (d, t)) : (W.set i (d, u)).map Prod.fst = W.map Prod.fst := by
  rw [List.map_set]
  apply List.ext_getElem?
  intro j
  by_cases h : i = j
  · subst h
    have : (W.map Prod.fst)[i]? = some d := by rw [List.getElem?_map, List.getElem?_eq_getElem hi, Option.map_some, getD_el hi, hd]
    rw [List.getElem?_set_self (by simpa using hi), this]
  · rw [List.getElem?_set_ne h]
theorem fit_push {W : List Wn} {F C : List Int} {d : Int} (h : FitF W F C) (hd : okD d) (hf : d ∉ F) (hc : d ∉ C) (hw : d ∉ W.map Prod.fst) (hm : ¬ 12 ≤ W.length) : FitF (W ++ [(d, 0)]) F C := by
  refine ⟨by simp; omega, h.fmany, fun x hx => ?_, ?_, fun x hx => ?_, h.fok, h.fone, h.ffree⟩
  · rcases List.mem_append.1 hx with hx | hx
    · exact h.wok x hx
    · simp only [List.mem_singleton] at hx; subst hx; exact ⟨hd, by simp, by simp⟩
  · rw [List.map_append, List.nodup_append]
    refine ⟨h.wone, by simp, fun a ha b hb e => ?_⟩
    simp at hb
    subst e hb
    exact hw ha
  · rcases List.mem_append.1 hx with hx | hx
    · exact h.wfree x hx
    · simp only [List.mem_singleton] at hx; subst hx; exact ⟨hc, hf⟩
theorem fit_set {W : List Wn} {F C : List Int} {i : Nat} {d t u : Int} (h : FitF W F C) (hi : i < W.length) (hd : W.getD i (0, 0) = (d, t)) (h0 : 0 ≤ u) (h3 : u < 3) : FitF (W.set i (d, u)) F C := by
  have hx := getD_mem (0, 0) hi
  rw [hd] at hx
  refine ⟨by simpa using h.wmany, h.fmany, fun x hx2 => ?_, by rw [set_fst hi hd]; exact h.wone, fun x hx2 => ?_, h.fok, h.fone, h.ffree⟩
  · rcases List.mem_or_eq_of_mem_set hx2 with h2 | h2
    · exact h.wok x h2
    · subst h2; exact ⟨(h.wok _ hx).1, h0, h3⟩
  · rcases List.mem_or_eq_of_mem_set hx2 with h2 | h2
    · exact h.wfree x h2
    · subst h2; exact h.wfree (d, t) hx
theorem erase_nodup {W : List Wn} {i : Nat} (h : (W.map Prod.fst).Nodup) : ((W.eraseIdx i).map Prod.fst).Nodup :=
  h.sublist ((List.eraseIdx_sublist W i).map Prod.fst)
theorem erase_not {W : List Wn} {i : Nat} {d : Int} (h : (W.map Prod.fst).Nodup) (hi : i < W.length) (hd : (W.getD i (0, 0)).1 = d) {x : Wn} (hx : x ∈ W.eraseIdx i) : x.1 ≠ d := by
  intro e
  rw [List.mem_eraseIdx_iff_getElem] at hx
  obtain ⟨j, hj, hne, ej⟩ := hx
  refine want_other h hi hd j hj hne ?_
  rw [← getD_el hj, ej, e]
theorem fit_fail {W : List Wn} {F C : List Int} {i : Nat} {d t : Int} (h : FitF W F C) (hi : i < W.length) (hd : W.getD i (0, 0) = (d, t)) (h40 : ¬ 40 ≤ F.length) : FitF (W.eraseIdx i) (F ++ [d]) C := by
  have hx := getD_mem (0, 0) hi
  rw [hd] at hx
  have hw := h.wmany
  refine ⟨by rw [erase_len hi]; omega, by simp; omega, fun x hx2 => h.wok x (erase_mem hx2), erase_nodup h.wone, fun x hx2 => ⟨(h.wfree x (erase_mem hx2)).1, fun hm => ?_⟩, fun y hy => ?_, ?_, fun y hy => ?_⟩
  · rcases List.mem_append.1 hm with hm | hm
    · exact (h.wfree x (erase_mem hx2)).2 hm
    · simp only [List.mem_singleton] at hm
      exact erase_not h.wone hi (by rw [hd]) hx2 hm
  · rcases List.mem_append.1 hy with hy | hy
    · exact h.fok y hy
    · simp only [List.mem_singleton] at hy; subst hy; exact (h.wok _ hx).1
  · rw [List.nodup_append]
    refine ⟨h.fone, by simp, fun a ha b hb e => ?_⟩
    simp at hb
    subst e hb
    exact (h.wfree _ hx).2 ha
  · rcases List.mem_append.1 hy with hy | hy
    · exact h.ffree y hy
    · simp only [List.mem_singleton] at hy; subst hy; exact (h.wfree _ hx).1
theorem keys_ins {D : Nat → Int} {n m : Nat} {d x : Int} (hm : m ≤ n) : x ∈ keysC (ins D m d) (n + 1) ↔ x = d ∨ x ∈ keysC D n := by
  rw [mem_keysC, mem_keysC]
  constructor
  · rintro ⟨i, hi, e⟩
    unfold ins at e
    split at e
    · exact .inr ⟨i, by omega, e⟩
    · split at e
      · exact .inl e.symm
      · exact .inr ⟨i - 1, by omega, e⟩
  · rintro (rfl | ⟨i, hi, e⟩)
    · exact ⟨m, by omega, by simp [ins]⟩
    · by_cases h : i < m
      · exact ⟨i, by omega, by simp [ins, h, e]⟩
      · have h1 : ¬ i + 1 < m := by omega
        have h2 : ¬ i + 1 = m := by omega
        exact ⟨i + 1, by omega, by simp [ins, h1, h2, e]⟩
theorem fit_heard {W : List Wn} {F : List Int} {D : Nat → Int} {n i m : Nat} {d t : Int} (h : FitF W F (keysC D n)) (hi : i < W.length) (hd : W.getD i (0, 0) = (d, t)) (hm : m ≤ n) : FitF (W.eraseIdx i) F (keysC (ins D m d) (n + 1)) := by
  have hx := getD_mem (0, 0) hi
  rw [hd] at hx
  have hw := h.wmany
  refine ⟨by rw [erase_len hi]; omega, h.fmany, fun x hx2 => h.wok x (erase_mem hx2), erase_nodup h.wone, fun x hx2 => ⟨fun hk => ?_, (h.wfree x (erase_mem hx2)).2⟩, h.fok, h.fone, fun y hy hk => ?_⟩
  · rcases (keys_ins hm).1 hk with e | hk
    · exact erase_not h.wone hi (by rw [hd]) hx2 e
    · exact (h.wfree x (erase_mem hx2)).1 hk
  · rcases (keys_ins hm).1 hk with e | hk
    · subst e; exact (h.wfree _ hx).2 hy
    · exact h.ffree y hy hk
theorem right_ins {D : Nat → Int} {P : Nat → List Int} {n m : Nat} {d : Int} {ds : List Int} (hR : RightC D P n) (hO : oneFault d ds = 0) (hm : m ≤ n) (hlow : ∀ i, i < m → D i < d) (hhigh : m < n → ¬ D m < d) (hd' : ∀ j, j < n → D j ≠ d) (hf : ¬ 40 ≤ n) : RightC (ins D m d) (ins P m ds) (n + 1) := by
  obtain ⟨hdr, hdl, hds⟩ := oneFault_zero hO
  have hup := ins_up hR hm hlow hhigh hd'
  refine ⟨by omega, fun i hi => ?_, fun i hi => ?_, fun i hi => ?_, fun i hi => hup i (i + 1) (by omega) hi⟩
  all_goals
    unfold ins
    by_cases e1 : i < m
    · simp only [if_pos e1]
      first | exact hR.range i (by omega) | exact hR.len i (by omega) | exact hR.sum i (by omega)
    · simp only [if_neg e1]
      by_cases e2 : i = m
      · first | (simp only [if_pos e2]; exact hdr) | (simp only [if_pos e2]; exact hdl) | (simp only [if_pos e2]; exact hds)
      · simp only [if_neg e2]
        first | exact hR.range (i - 1) (by omega) | exact hR.len (i - 1) (by omega) | exact hR.sum (i - 1) (by omega)
theorem u8_ins {P : Nat → List Int} {n m : Nat} {ds : List Int} (h : ∀ i, i < n → U8 (P i)) (hu : U8 ds) (hm : m ≤ n) : ∀ i, i < n + 1 → U8 (ins P m ds i) := fun i hi => by
  unfold ins
  by_cases e1 : i < m
  · simp only [if_pos e1]; exact h i (by omega)
  · simp only [if_neg e1]
    by_cases e2 : i = m
    · simp only [if_pos e2]; exact hu
    · simp only [if_neg e2]; exact h (i - 1) (by omega)
structure Nice (W : List Wn) (F : List Int) (D : Nat → Int) (P : Nat → List Int) (n : Nat) : Prop where
  right : RightC D P n
  fit : FitF W F (keysC D n)
  u8 : ∀ i, i < n → U8 (P i)
theorem Nice.zero {W : List Wn} {F : List Int} {D : Nat → Int} {P : Nat → List Int} {n : Nat} (h : Nice W F D P n) : fetFault W F D P n = 0 := fet_right h.right h.fit
theorem Nice.small {W : List Wn} {F : List Int} {D : Nat → Int} {P : Nat → List Int} {n : Nat} (h : Nice W F D P n) : SmallP P n := fun i hi => ⟨h.u8 i hi, by have := (h.right.len i hi).2; omega⟩
theorem Nice.none (D : Nat → Int) (P : Nat → List Int) : Nice [] [] D P 0 := ⟨⟨by omega, fun i hi => by omega, fun i hi => by omega, fun i hi => by omega, fun i hi => by omega⟩, ⟨by simp, by simp, fun x hx => by simp at hx, by simp, fun x hx => by simp at hx, fun x hx => by simp at hx, by simp, fun x hx => by simp at hx⟩, fun i hi => by omega⟩
theorem ask_nice (W : List Wn) (F : List Int) (D : Nat → Int) (P : Nat → List Int) (n : Nat) (d : Int) (h : Nice W F D P n) :
    ∃ q W' F' D' P' n', (q = 0 → Nice W' F' D' P' n') ∧ (∀ wa wk fa fc ca cc u, RdF u wa W fa F ca D P n → F.length ≤ fc → Calls Tryz.prog 58 #[fetV wa W.length wk fa F.length fc ca n cc, .int .i64 d] u (ResF q W' F' D' P' n' u)) := by
  have hz := h.zero
  have hP := h.small
  have hn : n ≤ 1048576 := by have := h.right.many; omega
  have hWl : W.length ≤ 1048576 := by have := h.fit.wmany; omega
  have hFl : F.length ≤ 1048576 := by have := h.fit.fmany; omega
  have hPl : ∀ i, i < n → 0 < (P i).length ∧ (P i).length ≤ 1048576 := fun i hi => h.right.u8len hi
  by_cases hd : okD d
  · by_cases hf : d ∈ F
    · exact ⟨8, [], [], D, P, 0, fun e => by omega, fun wa wk fa fc ca cc u h hfc => specAskFetch_away wa wk W fa fc F ca cc n D P d u h hn hP hWl hFl hfc hz hPl hd hf⟩
    · by_cases hk : d ∈ keysC D n
      · obtain ⟨i0, hi0, e0⟩ := mem_keysC.1 hk
        obtain ⟨i, hi, e, hfi⟩ := first_of i0 e0
        exact ⟨0, W, F, D, P, n, fun _ => h, fun wa wk fa fc ca cc u h hfc => specAskFetch_held wa wk W fa fc F ca cc n D P d u h hn hP hWl hFl hfc hz hPl hd hf i (by omega) e hfi⟩
      · have hnk : ∀ j, j < n → D j ≠ d := fun j hj e => hk (mem_keysC.2 ⟨j, hj, e⟩)
        by_cases hw : d ∈ W.map Prod.fst
        · obtain ⟨i, hi, e, hfi⟩ := want_at hw
          exact ⟨0, W, F, D, P, n, fun _ => h, fun wa wk fa fc ca cc u h hfc => specAskFetch_wanted wa wk W fa fc F ca cc n D P d u h hn hP hWl hFl hfc hz hPl hd hf hnk i hi e hfi⟩
        · by_cases hm : 12 ≤ W.length
          · exact ⟨2, [], [], D, P, 0, fun e => by omega, fun wa wk fa fc ca cc u h hfc => specAskFetch_many wa wk W fa fc F ca cc n D P d u h hn hP hWl hFl hfc hz hPl hd hf hnk (want_no hw) hm⟩
          · exact ⟨0, W ++ [(d, 0)], F, D, P, n, fun _ => ⟨h.right, fit_push h.fit hd hf hk hw hm, h.u8⟩, fun wa wk fa fc ca cc u h hfc => specAskFetch_new wa wk W fa fc F ca cc n D P d u h hn hP hWl hFl hfc hz hPl hd hf hnk (want_no hw) hm⟩
  · exact ⟨3, [], [], D, P, 0, fun e => by omega, fun wa wk fa fc ca cc u h hfc => specAskFetch_range wa wk W fa fc F ca cc n D P d u h hn hP hWl hFl hfc hz hd⟩
theorem lose_nice (W : List Wn) (F : List Int) (D : Nat → Int) (P : Nat → List Int) (n : Nat) (d : Int) (h : Nice W F D P n) :
    ∃ q W' F' D' P' n', (q = 0 → Nice W' F' D' P' n') ∧ (∀ wa wk fa fc ca cc u, RdF u wa W fa F ca D P n → F.length ≤ fc → Calls Tryz.prog 60 #[fetV wa W.length wk fa F.length fc ca n cc, .int .i64 d] u (ResF q W' F' D' P' n' u)) := by
  have hz := h.zero
  have hP := h.small
  have hn : n ≤ 1048576 := by have := h.right.many; omega
  have hWl : W.length ≤ 1048576 := by have := h.fit.wmany; omega
  have hFl : F.length ≤ 1048576 := by have := h.fit.fmany; omega
  have hPl : ∀ i, i < n → 0 < (P i).length ∧ (P i).length ≤ 1048576 := fun i hi => h.right.u8len hi
  by_cases hw : d ∈ W.map Prod.fst
  · obtain ⟨i, hi, e, hfi⟩ := want_at hw
    have hx := h.fit.wok _ (getD_mem (0, 0) hi)
    obtain ⟨t, ht⟩ : ∃ t, t = (W.getD i (0, 0)).2 := ⟨_, rfl⟩
    have hd : W.getD i (0, 0) = (d, t) := by rw [← e, ht]
    rw [← ht] at hx
    have h0 := hx.2.1
    have h9 : t ≤ 9 := by omega
    by_cases h3 : t + 1 < 3
    · exact ⟨0, W.set i (d, t + 1), F, D, P, n, fun _ => ⟨h.right, fit_set h.fit hi hd (by omega) h3, h.u8⟩, fun wa wk fa fc ca cc u h hfc => specLoseFetch_more wa wk W fa fc F ca cc n D P d u h hn hP hWl hFl hfc hz hPl i t hi hd hfi h0 h3⟩
    · by_cases h40 : 40 ≤ F.length
      · exact ⟨2, [], [], D, P, 0, fun e => by omega, fun wa wk fa fc ca cc u h hfc => specLoseFetch_full wa wk W fa fc F ca cc n D P d u h hn hP hWl hFl hfc hz hPl i t hi hd hfi h0 h9 h3 h40⟩
      · exact ⟨0, W.eraseIdx i, F ++ [d], D, P, n, fun _ => ⟨h.right, fit_fail h.fit hi hd h40, h.u8⟩, fun wa wk fa fc ca cc u h hfc => specLoseFetch_last wa wk W fa fc F ca cc n D P d u h hn hP hWl hFl hfc hz hPl i t hi hd hfi h0 h9 h3 h40⟩
  · exact ⟨4, [], [], D, P, 0, fun e => by omega, fun wa wk fa fc ca cc u h hfc => specLoseFetch_none wa wk W fa fc F ca cc n D P d u h hn hP hWl hFl hfc hz (want_no hw)⟩
theorem hear_nice (W : List Wn) (F : List Int) (D : Nat → Int) (P : Nat → List Int) (n : Nat) (d : Int) (zs : List Int) (h : Nice W F D P n) (hu : U8 zs) (hl : zs.length ≤ 1048576) :
    ∃ q W' F' D' P' n', (q = 0 → Nice W' F' D' P' n') ∧ (∀ wa wk fa fc ca cc da dc u, RdF u wa W fa F ca D P n → F.length ≤ fc → Reads .u8 u da zs → Calls Tryz.prog 59 #[fetV wa W.length wk fa F.length fc ca n cc, .int .i64 d, .slice da zs.length dc] u (ResF q W' F' D' P' n' u)) := by
  have hz := h.zero
  have hP := h.small
  have hn : n ≤ 1048576 := by have := h.right.many; omega
  have hWl : W.length ≤ 1048576 := by have := h.fit.wmany; omega
  have hFl : F.length ≤ 1048576 := by have := h.fit.fmany; omega
  have hPl : ∀ i, i < n → 0 < (P i).length ∧ (P i).length ≤ 1048576 := fun i hi => h.right.u8len hi
  by_cases hw : d ∈ W.map Prod.fst
  · obtain ⟨i, hi, e, hfi⟩ := want_at hw
    have hx := h.fit.wok _ (getD_mem (0, 0) hi)
    obtain ⟨t, ht⟩ : ∃ t, t = (W.getD i (0, 0)).2 := ⟨_, rfl⟩
    have hd : W.getD i (0, 0) = (d, t) := by rw [← e, ht]
    rw [← ht] at hx
    have h0 := hx.2.1
    have h9 : t ≤ 9 := by omega
    by_cases hO : oneFault d zs = 0
    · have hnk : ∀ j, j < n → D j ≠ d := fun j hj e2 => (h.fit.wfree _ (getD_mem (0, 0) hi)).1 (by rw [e]; exact mem_keysC.2 ⟨j, hj, e2⟩)
      have hz8 := (oneFault_zero hO).2.1
      by_cases h40 : 40 ≤ n
      · exact ⟨2, [], [], D, P, 0, fun e => by omega, fun wa wk fa fc ca cc da dc u h hfc hr => specHearFetch_many wa wk W fa fc F ca cc n D P d u h hn hP hWl hFl hfc da dc zs hr hu hl hz hPl i t hi hd hfi hO hnk h40⟩
      · obtain ⟨m, hm, hlow, hhigh⟩ := place_of D d n
        exact ⟨0, W.eraseIdx i, F, ins D m d, ins P m zs, n + 1, fun _ => ⟨right_ins h.right hO hm hlow hhigh hnk h40, fit_heard h.fit hi hd hm, u8_ins h.u8 hu hm⟩, fun wa wk fa fc ca cc da dc u h hfc hr => specHearFetch_new wa wk W fa fc F ca cc n D P d u h hn hP hWl hFl hfc da dc zs hr hu hl hz hPl i t hi hd hfi hO hnk h40 ⟨by omega, by omega⟩ m hm hlow hhigh⟩
    · by_cases h3 : t + 1 < 3
      · exact ⟨0, W.set i (d, t + 1), F, D, P, n, fun _ => ⟨h.right, fit_set h.fit hi hd (by omega) h3, h.u8⟩, fun wa wk fa fc ca cc da dc u h hfc hr => specHearFetch_more wa wk W fa fc F ca cc n D P d u h hn hP hWl hFl hfc da dc zs hr hu hl hz hPl i t hi hd hfi hO h0 h3⟩
      · by_cases h40 : 40 ≤ F.length
        · exact ⟨2, [], [], D, P, 0, fun e => by omega, fun wa wk fa fc ca cc da dc u h hfc hr => specHearFetch_full wa wk W fa fc F ca cc n D P d u h hn hP hWl hFl hfc da dc zs hr hu hl hz hPl i t hi hd hfi hO h0 h9 h3 h40⟩
        · exact ⟨0, W.eraseIdx i, F ++ [d], D, P, n, fun _ => ⟨h.right, fit_fail h.fit hi hd h40, h.u8⟩, fun wa wk fa fc ca cc da dc u h hfc hr => specHearFetch_last wa wk W fa fc F ca cc n D P d u h hn hP hWl hFl hfc da dc zs hr hu hl hz hPl i t hi hd hfi hO h0 h9 h3 h40⟩
  · exact ⟨4, [], [], D, P, 0, fun e => by omega, fun wa wk fa fc ca cc da dc u h hfc hr => specHearFetch_none wa wk W fa fc F ca cc n D P d u h hn hP hWl hFl hfc da dc zs hr hu hl hz (want_no hw)⟩
end Go.Proofs.YtejfcapocikjmaaGreatDoor

namespace Go.Proofs.YtejfcapocikjmaaGreatDoor
open Go.RowKit
set_option linter.unusedVariables false

def Src (w : World) (p : Nat) (zs : List Int) (t : Int) : Prop :=
  ∃ a c, w.cell? ⟨p, 0, none⟩ = some (.slice a zs.length c) ∧ w.cell? ⟨p, 1, none⟩ = some (.int .i64 t) ∧ w.frozen? ⟨p, 1, none⟩ = false ∧ Reads .u8 w a zs ∧ (zs ≠ [] → ∀ x, a = some x → x.block < p)

theorem Src.step {w : World} {p : Nat} {zs : List Int} {t : Int} (h : Src w p zs t) (s : Int) : Src (w.setCell ⟨p, 1, none⟩ (.int .i64 s)) p zs s ∧ Kept (fun b => b = p) w (w.setCell ⟨p, 1, none⟩ (.int .i64 s)) := by
  obtain ⟨a, c, q0, q1, q2, hr, hap⟩ := h
  have hk : Kept (fun b => b = p) w (w.setCell ⟨p, 1, none⟩ (.int .i64 s)) := Kept.setCell (S := fun b => b = p) (p := ⟨p, 1, none⟩) (Kept.refl _ w) (fun _ => rfl) _
  refine ⟨⟨a, c, ?_, cell_set_same q1, by rw [World.frozen?_setCell]; exact q2, hr.kept hk (fun hz x hx e => by have := hap hz x hx; omega), hap⟩, hk⟩
  rw [cell_set_other (by intro e; have := congrArg Addr.off e; simp at this)]; exact q0

theorem Src.drewN {w : World} {p : Nat} {zs : List Int} {t : Int} (h : Src w p zs t) (n : Nat) : Src (w.drewN n) p zs t := h

theorem Src.kept {S : Nat → Prop} {w w' : World} {p : Nat} {zs : List Int} {t : Int} (h : Src w p zs t) (hk : Kept S w w') (hS : ∀ b, b ≤ p → ¬ S b) : Src w' p zs t := by
  obtain ⟨a, c, q0, q1, q2, hr, hap⟩ := h
  have hlt := World.block_lt_of_cell? w ⟨p, 0, none⟩ q0
  have hp := hS p (Nat.le_refl _)
  exact ⟨a, c, (hk.cell (p := ⟨p, 0, none⟩) hlt hp).trans q0, (hk.cell (p := ⟨p, 1, none⟩) hlt hp).trans q1, (hk.frozen (p := ⟨p, 1, none⟩) hlt hp).trans q2, hr.kept hk (fun hz x hx => hS _ (Nat.le_of_lt (hap hz x hx))), hap⟩

theorem Src.below {w w' : World} {p : Nat} {zs : List Int} {t : Int} (h : Src w p zs t) (hk : Below w.heap.size w w') : Src w' p zs t :=
  Src.kept (S := fun _ => False) h (Kept.of_below hk) (fun _ _ => id)
theorem Src.lt {w : World} {p : Nat} {zs : List Int} {t : Int} (h : Src w p zs t) : p < w.heap.size := by
  obtain ⟨a, c, q0, _⟩ := h
  exact World.block_lt_of_cell? w ⟨p, 0, none⟩ q0

theorem rem_bd (v n : Int) (hn : 1 ≤ n) : 0 ≤ v % n ∧ v % n < n := ⟨Int.emod_nonneg _ (by omega), Int.emod_lt_of_pos _ (by omega)⟩
theorem mod_bd (t : Int) (k : Nat) (hk : 0 < k) : 0 ≤ t % (k : Int) ∧ t % (k : Int) < (k : Int) := ⟨Int.emod_nonneg _ (by omega), Int.emod_lt_of_pos _ (by omega)⟩
theorem div_bd (t : Int) (k : Nat) (h0 : 0 ≤ t) : 0 ≤ t / (k : Int) ∧ t / (k : Int) ≤ t := ⟨Int.ediv_nonneg h0 (by omega), Int.ediv_le_self _ h0⟩

set_option maxHeartbeats 1600000 in
theorem l1Next_big (p : Nat) (zs : List Int) (t n : Int) (w : World) (h : Src w p zs t) (hu : U8 zs) (ht0 : 0 ≤ t) (ht1 : t ≤ 1099511627776) (hn0 : 1 ≤ n) (hn1 : n ≤ 2147483648) (hl : zs.length ≤ 2097152) :
    Calls Tryz.prog 35 #[.pointer (some ⟨p, 0, none⟩), .int .i64 n] w fun e w' => ∃ r, e = .returned (.int .i64 r) ∧ 0 ≤ r ∧ r < n ∧ Src w' p zs (t + 1) ∧ Kept (fun b => b = p) w w' := by
  have HS := hide (h.step (t + 1))
  obtain ⟨a, c, q0, q1, q2, hr, hap⟩ := h
  by_cases hz : zs = []
  · have hn : zs.length = 0 := by rw [hz]; rfl
    rw [hn] at q0
    have hmod : 0 ≤ t * 7 % n ∧ t * 7 % n < n := ⟨Int.emod_nonneg _ (by omega), Int.emod_lt_of_pos _ (by omega)⟩
    have HM := hide hmod
    clear hmod hr hap hz hn
    go_enter Tryz.func35, Tryz.ntmps35
    go_wp2
    go_ret
    exact ⟨_, rfl, HM.out.1, HM.out.2, HS.out.1, HS.out.2⟩
  · obtain ⟨b, off, rfl, hb, hc⟩ := hr hz
    have hlen : 0 < zs.length := List.length_pos_iff.2 hz
    have hne : ((zs.length : Int) == 0) = false := by simp; omega
    have hbp : b ≠ p := by have := hap hz _ rfl; simp at this; omega
    obtain ⟨m0, m1⟩ := mod_bd t zs.length hlen
    obtain ⟨m2, m3⟩ := mod_bd (t + 1) zs.length hlen
    obtain ⟨d0, d1⟩ := div_bd t zs.length ht0
    have hz1 := hu.get (t % (zs.length : Int)).toNat
    have hz2 := hu.get ((t + 1) % (zs.length : Int)).toNat
    have c1 := hc (t % (zs.length : Int)).toNat (by omega)
    have c2 := hc ((t + 1) % (zs.length : Int)).toNat (by omega)
    generalize zs.getD (t % (zs.length : Int)).toNat 0 = z1 at hz1 c1
    generalize zs.getD ((t + 1) % (zs.length : Int)).toNat 0 = z2 at hz2 c2
    generalize hW : w.setCell ⟨p, 1, none⟩ (.int .i64 (t + 1)) = W at HS
    have k0 : W.cell? ⟨p, 0, none⟩ = some (.slice (some ⟨b, off, none⟩) zs.length c) := by rw [← hW, cell_set_other (by intro e; have := congrArg Addr.off e; simp at this)]; exact q0
    have k1 : W.cell? ⟨p, 1, none⟩ = some (.int .i64 (t + 1)) := by rw [← hW]; exact cell_set_same q1
    have k2 : W.cell? ⟨b, off + (t % (zs.length : Int)).toNat, none⟩ = some (.int .u8 z1) := by rw [← hW]; exact cell_set_far (fun e => hbp e.symm) c1
    have k3 : W.cell? ⟨b, off + ((t + 1) % (zs.length : Int)).toNat, none⟩ = some (.int .u8 z2) := by rw [← hW]; exact cell_set_far (fun e => hbp e.symm) c2
    have HW := hide hW
    clear hW c1 c2 hc hr hap hz
    by_cases h200 : 200 < n
    · go_enter Tryz.func35, Tryz.ntmps35
      go_wp2
      rw [HW.out]
      go_quiet (fail)
      go_wp2
      go_quiet (fail)
      go_wp2
      go_ret
      exact ⟨_, rfl, (rem_bd _ n hn0).1, (rem_bd _ n hn0).2, HS.out.1.drewN _, HS.out.2.drewN _⟩
    · go_enter Tryz.func35, Tryz.ntmps35
      go_wp2
      rw [HW.out]
      go_quiet (fail)
      go_wp2
      go_ret
      exact ⟨_, rfl, (rem_bd _ n hn0).1, (rem_bd _ n hn0).2, HS.out.1.drewN _, HS.out.2.drewN _⟩
theorem l1Next_any (p : Nat) (zs : List Int) (t n : Int) (w : World) (h : Src w p zs t) (hu : U8 zs) (ht0 : 0 ≤ t) (ht1 : t ≤ 1099511627776) (hn0 : 1 ≤ n) (hn1 : n ≤ 2147483648) (hl : zs.length ≤ 1048576) :
    Calls Tryz.prog 35 #[.pointer (some ⟨p, 0, none⟩), .int .i64 n] w fun e w' => ∃ r, e = .returned (.int .i64 r) ∧ 0 ≤ r ∧ r < n ∧ Src w' p zs (t + 1) ∧ Kept (fun b => b = p) w w' :=
  l1Next_big p zs t n w h hu ht0 ht1 hn0 hn1 (by omega)

set_option maxHeartbeats 400000 in
theorem l1Source_any (a : Option Addr) (cap : Nat) (zs : List Int) (w : World) (h : Reads .u8 w a zs) :
    Calls Tryz.prog 12 #[.slice a zs.length cap] w fun e w' => e = .returned (.pointer (some ⟨w.heap.size, 0, none⟩)) ∧ Src w' w.heap.size zs 0 ∧ w'.heap.size = w.heap.size + 1 ∧ Below w.heap.size w w' := by
  have HR := hide h
  clear h
  go_enter Tryz.func12, Tryz.ntmps12
  go_wp2
  go_ret
  refine ⟨rfl, ⟨a, cap, by simp, by simp, by simp, HR.out.below (below_alloc _ _), fun hz x hx => ?_⟩, by simp, below_alloc _ _⟩
  obtain ⟨b, off, rfl, hb, _⟩ := HR.out hz
  simp at hx
  subst hx
  exact hb

set_option maxHeartbeats 800000 in
theorem l1Pick_big (p g c m : Nat) (vs : List Int) (zs : List Int) (t : Int) (w : World) (h : Src w p zs t) (hu : U8 zs) (ht0 : 0 ≤ t) (ht1 : t ≤ 1099511627776) (hl : zs.length ≤ 2097152)
    (hm0 : 0 < m) (hm1 : m ≤ 1000) (hm : m = vs.length) (hg : g ≠ p) (hgl : g < w.heap.size) (hc : ∀ i, i < m → w.cell? ⟨g, i, none⟩ = some (.int .i64 (vs.getD i 0))) :
    Calls Tryz.prog 36 #[.pointer (some ⟨p, 0, none⟩), .slice (some ⟨g, 0, none⟩) m c] w fun e w' => ∃ v, v ∈ vs ∧ e = .returned (.int .i64 v) ∧ Src w' p zs (t + 1) ∧ Kept (fun b => b = p) w w' := by
  have HS := hide h
  have HU := hide hu
  have HC := hide hc
  have HM := hide hm
  clear h hu hc hm
  go_enter Tryz.func36, Tryz.ntmps36
  go_wp2_with fail
  refine (l1Next_big p zs t _ _ HS.out HU.out ht0 ht1 (by omega) (by omega) hl).mono ?_
  rintro e w1 ⟨r, rfl, r0, r1, s1, k1⟩
  obtain ⟨j, rfl⟩ := Int.eq_ofNat_of_zero_le r0
  have hj : j < m := by omega
  have hcj := HC.out j hj
  have hmem : vs.getD j 0 ∈ vs := by
    have hj2 : j < vs.length := by have := HM.out; omega
    have e : vs.getD j 0 = vs[j] := by simp [List.getD_eq_getElem?_getD, hj2]
    rw [e]; exact List.getElem_mem hj2
  generalize vs.getD j 0 = v at hcj hmem
  have hc1 : w1.cell? ⟨g, j, none⟩ = some (.int .i64 v) := (k1.cell (p := ⟨g, j, none⟩) hgl hg).trans hcj
  have S1 := hide s1
  have K1 := hide k1
  have M1 := hide hmem
  clear s1 k1 hcj hmem
  go_wp2_with fail
  go_ret
  exact ⟨v, M1.out, rfl, S1.out, K1.out⟩
theorem l1Pick_any (p g c m : Nat) (vs : List Int) (zs : List Int) (t : Int) (w : World) (h : Src w p zs t) (hu : U8 zs) (ht0 : 0 ≤ t) (ht1 : t ≤ 1099511627776) (hl : zs.length ≤ 1048576)
    (hm0 : 0 < m) (hm1 : m ≤ 1000) (hm : m = vs.length) (hg : g ≠ p) (hgl : g < w.heap.size) (hc : ∀ i, i < m → w.cell? ⟨g, i, none⟩ = some (.int .i64 (vs.getD i 0))) :
    Calls Tryz.prog 36 #[.pointer (some ⟨p, 0, none⟩), .slice (some ⟨g, 0, none⟩) m c] w fun e w' => ∃ v, v ∈ vs ∧ e = .returned (.int .i64 v) ∧ Src w' p zs (t + 1) ∧ Kept (fun b => b = p) w w' :=
  l1Pick_big p g c m vs zs t w h hu ht0 ht1 (by omega) hm0 hm1 hm hg hgl hc

set_option maxHeartbeats 800000 in
theorem l1Some_big (p : Nat) (n : Nat) (zs : List Int) (t : Int) (w : World) (h : Src w p zs t) (hu : U8 zs) (ht0 : 0 ≤ t) (ht1 : t ≤ 549755813888) (hl : zs.length ≤ 2097152) (hn : n ≤ 1048576) (hp : p < w.heap.size) :
    Calls Tryz.prog 56 #[.pointer (some ⟨p, 0, none⟩), .int .i64 n] w fun e w' => ∃ a c ds, e = .returned (.slice a n c) ∧ ds.length = n ∧ U8 ds ∧ w'.ownsRow w.heap.size 5 1 (.slice a n c) n (ds.map (Value.int .u8)) ∧ Src w' p zs (t + n) ∧ Kept (fun b => b = p) w w' := by
  obtain ⟨i0, hi, hz0, hz1, hz2⟩ := info_parts Tryz.infoU8
  have HS := hide (h.below (below_alloc w (.cells #[] 5)))
  have HU := hide hu
  clear h hu
  go_enter Tryz.func56, Tryz.ntmps56
  go_wp2
  go_loopw [1, 5] (fun q v wr => ∃ j : Nat, ∃ ds : List Int, j ≤ n ∧ q = .int .i64 ((n : Int) - j) ∧ ds.length = j ∧ U8 ds ∧ wr.ownsRow w.heap.size 5 1 v j (ds.map (Value.int .u8)) ∧ Src wr p zs (t + j) ∧ Kept (fun b => b = p) w wr) (fun q _ _ => (intOf q).toNat)
  case atStart => exact ⟨0, [], Nat.zero_le _, by simp, rfl, fun z hz => by simp at hz, World.ownsRow_made w #[] 0 (Nat.le_refl _) (Nat.zero_le _) rfl, by simpa using HS.out, (Kept.refl _ _).alloc _⟩
  case round =>
    obtain ⟨j, ds, hj, rfl, hds, hU, hown, hsrc, hkept⟩ := hrel
    by_cases hlt : j < n
    · have hgt : (0 : Int) < (n : Int) - j := by omega
      have hsz := hkept.size
      have hm1 : j + 1 ≤ maxLen := by unfold maxLen; omega
      have hm2 : (j + 1) * 1 ≤ 140737488355328 := by omega
      have H1 := hide hds
      have H2 := hide hU
      have H3 := hide hown
      have H4 := hide hsrc
      have H5 := hide hkept
      clear hds hU hown hsrc hkept
      go_wp2_with (first | (go_at_call 35; refine (l1Next_big p zs _ _ _ H4.out HU.out (by omega) (by omega) (by omega) (by omega) hl).mono ?_; rintro e w1 ⟨r, rfl, r0, r1, s1, k1⟩; have S1 := hide s1; have K1 := hide k1; have O1 := hide (ownsRow_kept H3.out k1 (fun b hb e => by have := (H3.out.lt b hb).1; omega)); have hsz1 : w.heap.size ≤ w1.heap.size := Nat.le_trans hsz k1.size; clear s1 k1) | (at_builtin; refine wpList_append_one rfl (.tmp 11) (.tmp 16) 22 rfl w.heap.size 5 i0 (.int .u8 0) 1 1 Tryz.underlying22 hi hz0 hz1 hz2 rfl (by decide) _ _ _ rfl O1.out rfl rfl (by intro u hu; simp at hu; subst hu; rfl) hm1 hm2 hsz1 ?_; intro v' w2 hown2 hkept2; have O2 := hide hown2; have K2 := hide hkept2; clear hown2 hkept2))
      have hp1 : ∀ b, b ≤ p → ¬ (u5.ownBlock = some b) := fun b hb e => by have := (H3.out.lt b e).1; omega
      go_roundw
      case rel =>
        refine ⟨j + 1, ds ++ [97 + r], by omega, by go_num, by simp [H1.out], fun z hz => ?_, by simpa using O2.out, ?_, ?_⟩
        · rcases List.mem_append.1 hz with hz | hz
          · exact H2.out z hz
          · simp at hz; omega
        · have := S1.out.kept K2.out hp1
          rwa [show t + (j : Int) + 1 = t + ((j + 1 : Nat) : Int) from by omega] at this
        · exact (H5.out.trans K1.out).trans_own K2.out (fun b hb e => by have := (O1.out.lt b e).1; omega)
      case measure => simp [intOf]; omega
    · have hje : j = n := by omega
      subst hje
      obtain ⟨av, cv, rfl⟩ := ownsRow_shape hown
      have hz : ¬ (0 : Int) < (j : Int) - j := by omega
      go_wp2
      go_ret
      exact ⟨av, cv, rfl, ds, hds, hU, hown, hsrc, hkept⟩
theorem l1Some_any (p : Nat) (n : Nat) (zs : List Int) (t : Int) (w : World) (h : Src w p zs t) (hu : U8 zs) (ht0 : 0 ≤ t) (ht1 : t ≤ 549755813888) (hl : zs.length ≤ 1048576) (hn : n ≤ 1048576) (hp : p < w.heap.size) :
    Calls Tryz.prog 56 #[.pointer (some ⟨p, 0, none⟩), .int .i64 n] w fun e w' => ∃ a c ds, e = .returned (.slice a n c) ∧ ds.length = n ∧ U8 ds ∧ w'.ownsRow w.heap.size 5 1 (.slice a n c) n (ds.map (Value.int .u8)) ∧ Src w' p zs (t + n) ∧ Kept (fun b => b = p) w w' :=
  l1Some_big p n zs t w h hu ht0 ht1 (by omega) hn hp


end Go.Proofs.YtejfcapocikjmaaGreatDoor

namespace Go.Proofs.YtejfcapocikjmaaGreatDoor
open Go.RowKit
set_option linter.unusedVariables false

theorem cells5' (w : World) (a b c d e : Int) (t : TypeId) : ∀ i, i < 5 → (w.alloc (.cells #[.int .i64 a, .int .i64 b, .int .i64 c, .int .i64 d, .int .i64 e] t)).cell? ⟨w.heap.size, i, none⟩ = some (.int .i64 ([a, b, c, d, e].getD i 0)) := by
  intro i hi
  match i, hi with
  | 0, _ | 1, _ | 2, _ | 3, _ | 4, _ => simp
theorem join_small : ∀ (ns : List Bs), (∀ n ∈ ns, n.length ≤ 2) → (joinB ns).length ≤ 3 * ns.length
  | [], _ => by simp [joinB]
  | n :: ns, h => by
    have := join_small ns (fun m hm => h m (by simp [hm]))
    have := h n (by simp)
    simp [joinB]; omega

end Go.Proofs.YtejfcapocikjmaaGreatDoor

namespace Go.Proofs.YtejfcapocikjmaaGreatDoor
open Go.RowKit Go.Maps
set_option linter.unusedVariables false

def SrcX (w : World) (p : Nat) (zs : List Int) (T : Int) : Prop := ∃ t, 0 ≤ t ∧ t ≤ T ∧ Src w p zs t
theorem SrcX.kept {S : Nat → Prop} {w w' : World} {p : Nat} {zs : List Int} {T : Int} (h : SrcX w p zs T) (hk : Kept S w w') (hS : ∀ b, b ≤ p → ¬ S b) : SrcX w' p zs T := by
  obtain ⟨t, h0, h1, hs⟩ := h
  exact ⟨t, h0, h1, hs.kept hk hS⟩
theorem SrcX.below {w w' : World} {p : Nat} {zs : List Int} {T : Int} (h : SrcX w p zs T) (hk : Below w.heap.size w w') : SrcX w' p zs T := by
  obtain ⟨t, h0, h1, hs⟩ := h
  exact ⟨t, h0, h1, hs.below hk⟩
theorem SrcX.lt {w : World} {p : Nat} {zs : List Int} {T : Int} (h : SrcX w p zs T) : p < w.heap.size := by
  obtain ⟨t, _, _, hs⟩ := h
  exact hs.lt
theorem SrcX.mono {w : World} {p : Nat} {zs : List Int} {T T' : Int} (h : SrcX w p zs T) (hT : T ≤ T') : SrcX w p zs T' := by
  obtain ⟨t, h0, h1, hs⟩ := h
  exact ⟨t, h0, by omega, hs⟩
theorem next_e (p : Nat) (zs : List Int) (T n : Int) (w : World) (h : SrcX w p zs T) (hu : U8 zs) (hT : T ≤ 1000000) (hn0 : 1 ≤ n) (hn1 : n ≤ 1000) (hl : zs.length ≤ 2097152) :
    Calls Tryz.prog 35 #[.pointer (some ⟨p, 0, none⟩), .int .i64 n] w fun e w' => ∃ r : Nat, e = .returned (.int .i64 r) ∧ (r : Int) < n ∧ SrcX w' p zs (T + 1) ∧ Kept (fun b => b = p) w w' := by
  obtain ⟨t, h0, h1, hs⟩ := h
  refine (l1Next_big p zs t n w hs hu h0 (by omega) hn0 (by omega) hl).mono ?_
  rintro e w' ⟨r, rfl, r0, r1, s1, k1⟩
  exact ⟨r.toNat, by rw [Int.toNat_of_nonneg r0], by omega, ⟨t + 1, by omega, by omega, s1⟩, k1⟩
theorem pick_e (p g c m : Nat) (vs : List Int) (zs : List Int) (T : Int) (w : World) (h : SrcX w p zs T) (hu : U8 zs) (hT : T ≤ 1000000) (hl : zs.length ≤ 2097152)
    (hm0 : 0 < m) (hm1 : m ≤ 1000) (hm : m = vs.length) (hg : g ≠ p) (hgl : g < w.heap.size) (hc : ∀ i, i < m → w.cell? ⟨g, i, none⟩ = some (.int .i64 (vs.getD i 0))) :
    Calls Tryz.prog 36 #[.pointer (some ⟨p, 0, none⟩), .slice (some ⟨g, 0, none⟩) m c] w fun e w' => ∃ v, v ∈ vs ∧ e = .returned (.int .i64 v) ∧ SrcX w' p zs (T + 1) ∧ Kept (fun b => b = p) w w' := by
  obtain ⟨t, h0, h1, hs⟩ := h
  refine (l1Pick_big p g c m vs zs t w hs hu h0 (by omega) hl hm0 hm1 hm hg hgl hc).mono ?_
  rintro e w' ⟨v, hv, rfl, s1, k1⟩
  exact ⟨v, hv, rfl, ⟨t + 1, by omega, by omega, s1⟩, k1⟩
theorem some_e (p : Nat) (n : Nat) (zs : List Int) (T : Int) (w : World) (h : SrcX w p zs T) (hu : U8 zs) (hT : T ≤ 1000000) (hl : zs.length ≤ 2097152) (hn : n ≤ 1000) :
    Calls Tryz.prog 56 #[.pointer (some ⟨p, 0, none⟩), .int .i64 n] w fun e w' => ∃ a c ds, e = .returned (.slice a n c) ∧ ds.length = n ∧ U8 ds ∧ w'.ownsRow w.heap.size 5 1 (.slice a n c) n (ds.map (Value.int .u8)) ∧ SrcX w' p zs (T + n) ∧ Kept (fun b => b = p) w w' := by
  have hp := h.lt
  obtain ⟨t, h0, h1, hs⟩ := h
  refine (l1Some_big p n zs t w hs hu h0 (by omega) hl (by omega) hp).mono ?_
  rintro e w' ⟨a, c, ds, rfl, hd, hu, ho, s1, k1⟩
  exact ⟨a, c, ds, rfl, hd, hu, ho, ⟨t + n, by omega, by omega, s1⟩, k1⟩
set_option maxHeartbeats 800000 in
theorem chance_e (p : Nat) (zs : List Int) (T n : Int) (w : World) (h : SrcX w p zs T) (hu : U8 zs) (hT : T ≤ 1000000) (hn0 : 1 ≤ n) (hn1 : n ≤ 1000) (hl : zs.length ≤ 2097152) :
    Calls Tryz.prog 62 #[.pointer (some ⟨p, 0, none⟩), .int .i64 n] w fun e w' => ∃ r : Bool, e = .returned (.bool r) ∧ SrcX w' p zs (T + 1) ∧ Kept (fun b => b = p) w w' := by
  have HS := hide h
  have HU := hide hu
  clear h hu
  go_enter Tryz.func62, Tryz.ntmps62
  go_wp2_with fail
  refine (next_e p zs T n _ HS.out HU.out hT hn0 hn1 hl).mono ?_
  rintro e w1 ⟨r, rfl, r1, s1, k1⟩
  have S1 := hide s1
  have K1 := hide k1
  clear s1 k1
  go_wp2_with fail
  go_ret
  exact ⟨_, rfl, S1.out, K1.out⟩

def TextsQ (Q : Bs → Prop) (w : World) (g n : Nat) : Prop := g < w.heap.size ∧ ∀ i, i < n → ∃ x : Bs, w.cell? ⟨g, i, none⟩ = some (.string (str x)) ∧ Q x
theorem TextsQ.new {Q : Bs → Prop} {w : World} {t : TypeId} {vs : List Bs} (h : ∀ x ∈ vs, Q x) : TextsQ Q (w.alloc (.cells (vs.map vS).toArray t)) w.heap.size vs.length := by
  refine ⟨by simp, fun i hi => ⟨vs[i], ?_, h _ (List.getElem_mem hi)⟩⟩
  rw [cell_of_row _ w.heap.size i (vs.map vS).toArray t (0, 0) (heap_alloc_new w _)]
  simp [hi, vS]
theorem TextsQ.kept {Q : Bs → Prop} {S : Nat → Prop} {w w' : World} {g n : Nat} (h : TextsQ Q w g n) (hk : Kept S w w') (hn : ¬ S g) : TextsQ Q w' g n :=
  ⟨Nat.lt_of_lt_of_le h.1 hk.size, fun i hi => by obtain ⟨x, hx, hl⟩ := h.2 i hi; exact ⟨x, (hk.cell (p := ⟨g, i, none⟩) h.1 hn).trans hx, hl⟩⟩

set_option maxRecDepth 100000 in
set_option maxHeartbeats 800000 in
theorem name_e (p : Nat) (zs : List Int) (T : Int) (w : World) (h : SrcX w p zs T) (hu : U8 zs) (hT : T ≤ 1000000) (hl : zs.length ≤ 2097152) :
    Calls Tryz.prog 110 #[.pointer (some ⟨p, 0, none⟩)] w fun e w' => ∃ x : Bs, e = .returned (.string (str x)) ∧ (plain x = true ∧ x.length ≤ 2) ∧ SrcX w' p zs (T + 1) ∧ Kept (fun b => b = p) w w' := by
  have hp := h.lt
  have T0 := hide (TextsQ.new (Q := fun x => plain x = true ∧ x.length ≤ 2) (w := w) (t := 9) (vs := [[97], [98], [99], [97, 98]]) (by decide))
  have HS := hide (h.below (below_alloc w (.cells ([[97], [98], [99], [97, 98]].map vS).toArray 9)))
  have HU := hide hu
  clear h hu
  go_enter Tryz.func110, Tryz.ntmps110
  go_wp2_with fail
  refine (next_e p zs T 4 _ HS.out HU.out hT (by decide) (by decide) hl).mono ?_
  rintro e w1 ⟨i, rfl, r1, s1, k1⟩
  have T1 := hide (T0.out.kept k1 (by omega))
  have S1 := hide s1
  have K1 := hide (((Kept.refl (fun b => b = p) w).alloc (.cells ([[97], [98], [99], [97, 98]].map vS).toArray 9)).trans k1)
  clear s1 k1 T0 HS
  obtain ⟨x, hx, hxl⟩ := T1.out.2 i (by simp; omega)
  have hb := T1.out.1
  have HX := hide hxl
  clear hxl
  go_wp2_with fail
  go_ret
  exact ⟨x, rfl, HX.out, S1.out, K1.out⟩

end Go.Proofs.YtejfcapocikjmaaGreatDoor

