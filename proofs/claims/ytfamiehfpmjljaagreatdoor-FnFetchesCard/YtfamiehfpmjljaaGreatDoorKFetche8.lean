/-
  Texts put together: FetY FetAa FetK FetN.
-/
import Derived.Test.YtfamiehfpmjljaaGreatDoorKFetche7
import Derived.Test.YtfamiehfpmjljaaGreatDoorKFetche6
import Derived.Lib.SliceRun
import Derived.Deep.QuietTactic
import Derived.Deep.RegionLaw
namespace Go.Proofs.YtfamiehfpmjljaaGreatDoor
open Go.RowKit Go.Maps
set_option linter.unusedVariables false
set_option maxRecDepth 100000 in
set_option maxHeartbeats 6400000 in
theorem specAskFetch_away (wa : Option Addr) (wk : Nat) (W : List Wn) (fa : Option Addr) (fc : Nat) (F : List Int) (ca : Option Addr) (cc n : Nat) (D : Nat → Int) (P : Nat → List Int) (d : Int) (w : World) (h : RdF w wa W fa F ca D P n) (hn : n ≤ 1048576) (hP : SmallP P n) (hWl : W.length ≤ 1048576) (hFl : F.length ≤ 1048576) (hfc : F.length ≤ fc) (hz : fetFault W F D P n = 0) (hPl : ∀ i, i < n → 0 < (P i).length ∧ (P i).length ≤ 1048576) (hd : okD d) (hf : d ∈ F) :
    Calls Tryz.prog 24 #[fetV wa W.length wk fa F.length fc ca n cc, .int .i64 d] w (ResF 8 [] [] D P 0 w) := by
  have B0 := hide (below_next (below_alloc w (.cells #[.slice wa W.length wk, .slice fa F.length fc, .slice ca n cc] 28)) (below_alloc _ (.cells #[.int .i64 0, .slice none 0 0, .slice none 0 0, .slice none 0 0] 32)))
  have X0 := hide ((Bx3.new w (.slice wa W.length wk) (.slice fa F.length fc) (.slice ca n cc) 28).below (below_alloc _ (.cells #[.int .i64 0, .slice none 0 0, .slice none 0 0, .slice none 0 0] 32)))
  have R0 := hide (Bx4.new (w.alloc (.cells #[.slice wa W.length wk, .slice fa F.length fc, .slice ca n cc] 28)) (.int .i64 0) (.slice none 0 0) (.slice none 0 0) (.slice none 0 0) 32)
  have hs : (w.alloc (.cells #[.slice wa W.length wk, .slice fa F.length fc, .slice ca n cc] 28)).heap.size = w.heap.size + 1 := by simp
  rw [hs] at R0
  clear hs
  have HFF := hide (l10Fault_any w.heap.size wa wk W fa fc F ca cc n D P _ X0.out (h.below B0.out) hn hP hWl hFl hfc)
  rw [hz] at HFF
  have HIS := hide (fun (u : World) => dgS_any d u)
  rw [decide_eq_true hd] at HIS
  have HCP := hide (fun (u : World) (hb : Below w.heap.size w u) => l10Copy_any wa wk W fa fc F ca cc n D P u (h.below hb) hn hPl hWl hFl)
  have HF1 := hide hf
  clear h hP hz hd hf
  unfold fetV at HCP ⊢
  go_enter Tryz.func24, Tryz.ntmps24
  go_wp2_with fail
  generalize (w.alloc (.cells #[.slice wa W.length wk, .slice fa F.length fc, .slice ca n cc] 28)).alloc (.cells #[.int .i64 0, .slice none 0 0, .slice none 0 0, .slice none 0 0] 32) = W0 at *
  refine HFF.out.mono ?_
  rintro e w1 ⟨rfl, hb1⟩
  have B1 := hide (below_next B0.out hb1)
  have X1 := hide (X0.out.below hb1)
  have R1 := hide (R0.out.below hb1)
  clear hb1 X0 R0 B0 HFF
  go_wp2_with fail
  refine (HIS.out w1).mono ?_
  rintro e w1 ⟨rfl, rfl⟩
  obtain ⟨⟨t0, t1, t2⟩, -, -, -⟩ := X1.out
  go_wp2_with fail
  clear t0 t1 t2
  refine (HCP.out w1 B1.out).mono ?_
  rintro e w2 ⟨xa, xc, ya, yc, za, zc, T, rfl, hW2, hF2, hG2, hT2, hxT, hyT, hb2⟩
  have hzw := B1.out.size
  have hz2 := hb2.size
  have hr1 := R1.out.lt
  have B2 := hide (below_next (below_next B1.out hb2) (below_alloc w2 (.cells #[.slice xa W.length xc, .slice ya F.length yc, .slice za n zc] 28)))
  have A2 := hide (below_alloc w2 (.cells #[.slice xa W.length xc, .slice ya F.length yc, .slice za n zc] 28))
  have N2 := hide (Bx3.new w2 (.slice xa W.length xc) (.slice ya F.length yc) (.slice za n zc) 28)
  have R2 := hide ((R1.out.below hb2).below A2.out)
  have W2 := hide (hW2.below A2.out)
  have F2 := hide (ownsRow_below hF2 A2.out)
  have G2 := hide (hG2.below A2.out)
  have D2 : Hid (RdF (w2.alloc (.cells #[.slice xa W.length xc, .slice ya F.length yc, .slice za n zc] 28)) xa W ya F za D P n) := hide ⟨(hW2.below A2.out).rd, reads_owned (ownsRow_below hF2 A2.out) rfl, (hG2.rd).below A2.out⟩
  have hyl : ∀ b, (Value.slice ya F.length yc).ownBlock = some b → b < w2.heap.size := fun b hb => (hF2.lt b hb).2
  have hxl : ∀ b, (Value.slice xa W.length xc).ownBlock = some b → b < w2.heap.size := fun b hb => (World.ownsRow.lt hW2 b hb).2
  have hsz3 : (w2.alloc (.cells #[.slice xa W.length xc, .slice ya F.length yc, .slice za n zc] 28)).heap.size = w2.heap.size + 1 := by simp
  have HYX := hide (And.intro hyl (And.intro hxl (And.intro hxT hsz3)))
  clear hb2 hW2 hF2 hG2 R1 HCP HIS X1 hyl hxl hxT hyT hsz3
  have HAS := hide (l10Ask_failed w2.heap.size xa xc W ya yc F za zc n D P d _ N2.out D2.out hFl HF1.out)
  go_wp2_with fail
  generalize w2.alloc (.cells #[.slice xa W.length xc, .slice ya F.length yc, .slice za n zc] 28) = w3 at *
  refine HAS.out.mono ?_
  rintro e w3 ⟨rfl, rfl⟩
  go_wp2_with fail
  refine (l10Bad_any 8 w3).mono ?_
  rintro e w9 ⟨rfl, hb9⟩
  have B9 := hide (below_next B2.out hb9)
  obtain ⟨⟨m0, m1, m2, m3⟩, k0, k1, k2, k3⟩ := R2.out.below hb9
  clear hb9
  go_wp2_with fail
  have hk := Kept.fourF w9 (w.heap.size + 1) (.int .i64 8) (.slice none 0 0) (.slice none 0 0) (.slice none 0 0)
  exact bodyPost_ret (v := .agg #[.int .i64 8, .slice none 0 0, .slice none 0 0, .slice none 0 0]) (by simp [results, Tryz.results24, go_sem, m0, m1, m2, m3]) rfl (ResF.bad (B9.out.trans (hk.below (B := w.heap.size) B9.out.size (fun k hk e => by omega))))
set_option maxRecDepth 100000 in
set_option maxHeartbeats 6400000 in
theorem specAskFetch_held (wa : Option Addr) (wk : Nat) (W : List Wn) (fa : Option Addr) (fc : Nat) (F : List Int) (ca : Option Addr) (cc n : Nat) (D : Nat → Int) (P : Nat → List Int) (d : Int) (w : World) (h : RdF w wa W fa F ca D P n) (hn : n ≤ 1048576) (hP : SmallP P n) (hWl : W.length ≤ 1048576) (hFl : F.length ≤ 1048576) (hfc : F.length ≤ fc) (hz : fetFault W F D P n = 0) (hPl : ∀ i, i < n → 0 < (P i).length ∧ (P i).length ≤ 1048576) (hd : okD d) (hf : d ∉ F) (i : Nat) (hi : i < n) (hdi : D i = d) (hfi : ∀ j, j < i → D j ≠ d) :
    Calls Tryz.prog 24 #[fetV wa W.length wk fa F.length fc ca n cc, .int .i64 d] w (ResF 0 W F D P n w) := by
  have B0 := hide (below_next (below_alloc w (.cells #[.slice wa W.length wk, .slice fa F.length fc, .slice ca n cc] 28)) (below_alloc _ (.cells #[.int .i64 0, .slice none 0 0, .slice none 0 0, .slice none 0 0] 32)))
  have X0 := hide ((Bx3.new w (.slice wa W.length wk) (.slice fa F.length fc) (.slice ca n cc) 28).below (below_alloc _ (.cells #[.int .i64 0, .slice none 0 0, .slice none 0 0, .slice none 0 0] 32)))
  have R0 := hide (Bx4.new (w.alloc (.cells #[.slice wa W.length wk, .slice fa F.length fc, .slice ca n cc] 28)) (.int .i64 0) (.slice none 0 0) (.slice none 0 0) (.slice none 0 0) 32)
  have hs : (w.alloc (.cells #[.slice wa W.length wk, .slice fa F.length fc, .slice ca n cc] 28)).heap.size = w.heap.size + 1 := by simp
  rw [hs] at R0
  clear hs
  have HFF := hide (l10Fault_any w.heap.size wa wk W fa fc F ca cc n D P _ X0.out (h.below B0.out) hn hP hWl hFl hfc)
  rw [hz] at HFF
  have HIS := hide (fun (u : World) => dgS_any d u)
  rw [decide_eq_true hd] at HIS
  have HCP := hide (fun (u : World) (hb : Below w.heap.size w u) => l10Copy_any wa wk W fa fc F ca cc n D P u (h.below hb) hn hPl hWl hFl)
  have HF1 := hide (And.intro hf (And.intro hdi hfi))
  clear h hP hz hd hf hdi hfi
  unfold fetV at HCP ⊢
  go_enter Tryz.func24, Tryz.ntmps24
  go_wp2_with fail
  generalize (w.alloc (.cells #[.slice wa W.length wk, .slice fa F.length fc, .slice ca n cc] 28)).alloc (.cells #[.int .i64 0, .slice none 0 0, .slice none 0 0, .slice none 0 0] 32) = W0 at *
  refine HFF.out.mono ?_
  rintro e w1 ⟨rfl, hb1⟩
  have B1 := hide (below_next B0.out hb1)
  have X1 := hide (X0.out.below hb1)
  have R1 := hide (R0.out.below hb1)
  clear hb1 X0 R0 B0 HFF
  go_wp2_with fail
  refine (HIS.out w1).mono ?_
  rintro e w1 ⟨rfl, rfl⟩
  obtain ⟨⟨t0, t1, t2⟩, -, -, -⟩ := X1.out
  go_wp2_with fail
  clear t0 t1 t2
  refine (HCP.out w1 B1.out).mono ?_
  rintro e w2 ⟨xa, xc, ya, yc, za, zc, T, rfl, hW2, hF2, hG2, hT2, hxT, hyT, hb2⟩
  have hzw := B1.out.size
  have hz2 := hb2.size
  have hr1 := R1.out.lt
  have B2 := hide (below_next (below_next B1.out hb2) (below_alloc w2 (.cells #[.slice xa W.length xc, .slice ya F.length yc, .slice za n zc] 28)))
  have A2 := hide (below_alloc w2 (.cells #[.slice xa W.length xc, .slice ya F.length yc, .slice za n zc] 28))
  have N2 := hide (Bx3.new w2 (.slice xa W.length xc) (.slice ya F.length yc) (.slice za n zc) 28)
  have R2 := hide ((R1.out.below hb2).below A2.out)
  have W2 := hide (hW2.below A2.out)
  have F2 := hide (ownsRow_below hF2 A2.out)
  have G2 := hide (hG2.below A2.out)
  have D2 : Hid (RdF (w2.alloc (.cells #[.slice xa W.length xc, .slice ya F.length yc, .slice za n zc] 28)) xa W ya F za D P n) := hide ⟨(hW2.below A2.out).rd, reads_owned (ownsRow_below hF2 A2.out) rfl, (hG2.rd).below A2.out⟩
  have hyl : ∀ b, (Value.slice ya F.length yc).ownBlock = some b → b < w2.heap.size := fun b hb => (hF2.lt b hb).2
  have hxl : ∀ b, (Value.slice xa W.length xc).ownBlock = some b → b < w2.heap.size := fun b hb => (World.ownsRow.lt hW2 b hb).2
  have hsz3 : (w2.alloc (.cells #[.slice xa W.length xc, .slice ya F.length yc, .slice za n zc] 28)).heap.size = w2.heap.size + 1 := by simp
  have HYX := hide (And.intro hyl (And.intro hxl (And.intro hxT hsz3)))
  clear hb2 hW2 hF2 hG2 R1 HCP HIS X1 hyl hxl hxT hyT hsz3
  have HAS := hide (l10Ask_held w2.heap.size i xa xc W ya yc F za zc n D P d _ N2.out D2.out hn hFl HF1.out.1 hi HF1.out.2.1 HF1.out.2.2)
  go_wp2_with fail
  generalize w2.alloc (.cells #[.slice xa W.length xc, .slice ya F.length yc, .slice za n zc] 28) = w3 at *
  refine HAS.out.mono ?_
  rintro e w3 ⟨rfl, rfl⟩
  obtain ⟨⟨s0, s1, s2⟩, -, -, -⟩ := N2.out
  obtain ⟨⟨m0, m1, m2, m3⟩, k0, k1, k2, k3⟩ := R2.out
  go_wp2_with fail
  exact bodyPost_ret (v := .agg #[.int .i64 0, .slice xa W.length xc, .slice ya F.length yc, .slice za n zc]) (by simp [results, Tryz.results24, go_sem, m0, m1, m2, m3]) rfl (ResF.box (B := w1.heap.size) W2.out F2.out ((G2.out.mono hT2).wide (by have := HYX.out.2.2.2; omega)) B2.out (by omega) (by omega))
set_option maxRecDepth 100000 in
set_option maxHeartbeats 6400000 in
theorem specAskFetch_wanted (wa : Option Addr) (wk : Nat) (W : List Wn) (fa : Option Addr) (fc : Nat) (F : List Int) (ca : Option Addr) (cc n : Nat) (D : Nat → Int) (P : Nat → List Int) (d : Int) (w : World) (h : RdF w wa W fa F ca D P n) (hn : n ≤ 1048576) (hP : SmallP P n) (hWl : W.length ≤ 1048576) (hFl : F.length ≤ 1048576) (hfc : F.length ≤ fc) (hz : fetFault W F D P n = 0) (hPl : ∀ i, i < n → 0 < (P i).length ∧ (P i).length ≤ 1048576) (hd : okD d) (hf : d ∉ F) (hnk : ∀ j, j < n → D j ≠ d) (i : Nat) (hi : i < W.length) (hdi : (W.getD i (0, 0)).1 = d) (hfi : ∀ j, j < i → (W.getD j (0, 0)).1 ≠ d) :
    Calls Tryz.prog 24 #[fetV wa W.length wk fa F.length fc ca n cc, .int .i64 d] w (ResF 0 W F D P n w) := by
  have B0 := hide (below_next (below_alloc w (.cells #[.slice wa W.length wk, .slice fa F.length fc, .slice ca n cc] 28)) (below_alloc _ (.cells #[.int .i64 0, .slice none 0 0, .slice none 0 0, .slice none 0 0] 32)))
  have X0 := hide ((Bx3.new w (.slice wa W.length wk) (.slice fa F.length fc) (.slice ca n cc) 28).below (below_alloc _ (.cells #[.int .i64 0, .slice none 0 0, .slice none 0 0, .slice none 0 0] 32)))
  have R0 := hide (Bx4.new (w.alloc (.cells #[.slice wa W.length wk, .slice fa F.length fc, .slice ca n cc] 28)) (.int .i64 0) (.slice none 0 0) (.slice none 0 0) (.slice none 0 0) 32)
  have hs : (w.alloc (.cells #[.slice wa W.length wk, .slice fa F.length fc, .slice ca n cc] 28)).heap.size = w.heap.size + 1 := by simp
  rw [hs] at R0
  clear hs
  have HFF := hide (l10Fault_any w.heap.size wa wk W fa fc F ca cc n D P _ X0.out (h.below B0.out) hn hP hWl hFl hfc)
  rw [hz] at HFF
  have HIS := hide (fun (u : World) => dgS_any d u)
  rw [decide_eq_true hd] at HIS
  have HCP := hide (fun (u : World) (hb : Below w.heap.size w u) => l10Copy_any wa wk W fa fc F ca cc n D P u (h.below hb) hn hPl hWl hFl)
  have HF1 := hide (And.intro hf (And.intro hdi (And.intro hfi hnk)))
  clear h hP hz hd hf hdi hfi hnk
  unfold fetV at HCP ⊢
  go_enter Tryz.func24, Tryz.ntmps24
  go_wp2_with fail
  generalize (w.alloc (.cells #[.slice wa W.length wk, .slice fa F.length fc, .slice ca n cc] 28)).alloc (.cells #[.int .i64 0, .slice none 0 0, .slice none 0 0, .slice none 0 0] 32) = W0 at *
  refine HFF.out.mono ?_
  rintro e w1 ⟨rfl, hb1⟩
  have B1 := hide (below_next B0.out hb1)
  have X1 := hide (X0.out.below hb1)
  have R1 := hide (R0.out.below hb1)
  clear hb1 X0 R0 B0 HFF
  go_wp2_with fail
  refine (HIS.out w1).mono ?_
  rintro e w1 ⟨rfl, rfl⟩
  obtain ⟨⟨t0, t1, t2⟩, -, -, -⟩ := X1.out
  go_wp2_with fail
  clear t0 t1 t2
  refine (HCP.out w1 B1.out).mono ?_
  rintro e w2 ⟨xa, xc, ya, yc, za, zc, T, rfl, hW2, hF2, hG2, hT2, hxT, hyT, hb2⟩
  have hzw := B1.out.size
  have hz2 := hb2.size
  have hr1 := R1.out.lt
  have B2 := hide (below_next (below_next B1.out hb2) (below_alloc w2 (.cells #[.slice xa W.length xc, .slice ya F.length yc, .slice za n zc] 28)))
  have A2 := hide (below_alloc w2 (.cells #[.slice xa W.length xc, .slice ya F.length yc, .slice za n zc] 28))
  have N2 := hide (Bx3.new w2 (.slice xa W.length xc) (.slice ya F.length yc) (.slice za n zc) 28)
  have R2 := hide ((R1.out.below hb2).below A2.out)
  have W2 := hide (hW2.below A2.out)
  have F2 := hide (ownsRow_below hF2 A2.out)
  have G2 := hide (hG2.below A2.out)
  have D2 : Hid (RdF (w2.alloc (.cells #[.slice xa W.length xc, .slice ya F.length yc, .slice za n zc] 28)) xa W ya F za D P n) := hide ⟨(hW2.below A2.out).rd, reads_owned (ownsRow_below hF2 A2.out) rfl, (hG2.rd).below A2.out⟩
  have hyl : ∀ b, (Value.slice ya F.length yc).ownBlock = some b → b < w2.heap.size := fun b hb => (hF2.lt b hb).2
  have hxl : ∀ b, (Value.slice xa W.length xc).ownBlock = some b → b < w2.heap.size := fun b hb => (World.ownsRow.lt hW2 b hb).2
  have hsz3 : (w2.alloc (.cells #[.slice xa W.length xc, .slice ya F.length yc, .slice za n zc] 28)).heap.size = w2.heap.size + 1 := by simp
  have HYX := hide (And.intro hyl (And.intro hxl (And.intro hxT hsz3)))
  clear hb2 hW2 hF2 hG2 R1 HCP HIS X1 hyl hxl hxT hyT hsz3
  have HAS := hide (l10Ask_wanted w2.heap.size i xa xc W ya yc F za zc n D P d _ N2.out D2.out hn hWl hFl HF1.out.1 HF1.out.2.2.2 hi HF1.out.2.1 HF1.out.2.2.1)
  go_wp2_with fail
  generalize w2.alloc (.cells #[.slice xa W.length xc, .slice ya F.length yc, .slice za n zc] 28) = w3 at *
  refine HAS.out.mono ?_
  rintro e w3 ⟨rfl, rfl⟩
  obtain ⟨⟨s0, s1, s2⟩, -, -, -⟩ := N2.out
  obtain ⟨⟨m0, m1, m2, m3⟩, k0, k1, k2, k3⟩ := R2.out
  go_wp2_with fail
  exact bodyPost_ret (v := .agg #[.int .i64 0, .slice xa W.length xc, .slice ya F.length yc, .slice za n zc]) (by simp [results, Tryz.results24, go_sem, m0, m1, m2, m3]) rfl (ResF.box (B := w1.heap.size) W2.out F2.out ((G2.out.mono hT2).wide (by have := HYX.out.2.2.2; omega)) B2.out (by omega) (by omega))
set_option maxRecDepth 100000 in
set_option maxHeartbeats 6400000 in
theorem specAskFetch_many (wa : Option Addr) (wk : Nat) (W : List Wn) (fa : Option Addr) (fc : Nat) (F : List Int) (ca : Option Addr) (cc n : Nat) (D : Nat → Int) (P : Nat → List Int) (d : Int) (w : World) (h : RdF w wa W fa F ca D P n) (hn : n ≤ 1048576) (hP : SmallP P n) (hWl : W.length ≤ 1048576) (hFl : F.length ≤ 1048576) (hfc : F.length ≤ fc) (hz : fetFault W F D P n = 0) (hPl : ∀ i, i < n → 0 < (P i).length ∧ (P i).length ≤ 1048576) (hd : okD d) (hf : d ∉ F) (hnk : ∀ j, j < n → D j ≠ d) (hfi : ∀ j, j < W.length → (W.getD j (0, 0)).1 ≠ d) (h12 : 12 ≤ W.length) :
    Calls Tryz.prog 24 #[fetV wa W.length wk fa F.length fc ca n cc, .int .i64 d] w (ResF 2 [] [] D P 0 w) := by
  have B0 := hide (below_next (below_alloc w (.cells #[.slice wa W.length wk, .slice fa F.length fc, .slice ca n cc] 28)) (below_alloc _ (.cells #[.int .i64 0, .slice none 0 0, .slice none 0 0, .slice none 0 0] 32)))
  have X0 := hide ((Bx3.new w (.slice wa W.length wk) (.slice fa F.length fc) (.slice ca n cc) 28).below (below_alloc _ (.cells #[.int .i64 0, .slice none 0 0, .slice none 0 0, .slice none 0 0] 32)))
  have R0 := hide (Bx4.new (w.alloc (.cells #[.slice wa W.length wk, .slice fa F.length fc, .slice ca n cc] 28)) (.int .i64 0) (.slice none 0 0) (.slice none 0 0) (.slice none 0 0) 32)
  have hs : (w.alloc (.cells #[.slice wa W.length wk, .slice fa F.length fc, .slice ca n cc] 28)).heap.size = w.heap.size + 1 := by simp
  rw [hs] at R0
  clear hs
  have HFF := hide (l10Fault_any w.heap.size wa wk W fa fc F ca cc n D P _ X0.out (h.below B0.out) hn hP hWl hFl hfc)
  rw [hz] at HFF
  have HIS := hide (fun (u : World) => dgS_any d u)
  rw [decide_eq_true hd] at HIS
  have HCP := hide (fun (u : World) (hb : Below w.heap.size w u) => l10Copy_any wa wk W fa fc F ca cc n D P u (h.below hb) hn hPl hWl hFl)
  have HF1 := hide (And.intro hf (And.intro hfi hnk))
  clear h hP hz hd hf hfi hnk
  unfold fetV at HCP ⊢
  go_enter Tryz.func24, Tryz.ntmps24
  go_wp2_with fail
  generalize (w.alloc (.cells #[.slice wa W.length wk, .slice fa F.length fc, .slice ca n cc] 28)).alloc (.cells #[.int .i64 0, .slice none 0 0, .slice none 0 0, .slice none 0 0] 32) = W0 at *
  refine HFF.out.mono ?_
  rintro e w1 ⟨rfl, hb1⟩
  have B1 := hide (below_next B0.out hb1)
  have X1 := hide (X0.out.below hb1)
  have R1 := hide (R0.out.below hb1)
  clear hb1 X0 R0 B0 HFF
  go_wp2_with fail
  refine (HIS.out w1).mono ?_
  rintro e w1 ⟨rfl, rfl⟩
  obtain ⟨⟨t0, t1, t2⟩, -, -, -⟩ := X1.out
  go_wp2_with fail
  clear t0 t1 t2
  refine (HCP.out w1 B1.out).mono ?_
  rintro e w2 ⟨xa, xc, ya, yc, za, zc, T, rfl, hW2, hF2, hG2, hT2, hxT, hyT, hb2⟩
  have hzw := B1.out.size
  have hz2 := hb2.size
  have hr1 := R1.out.lt
  have B2 := hide (below_next (below_next B1.out hb2) (below_alloc w2 (.cells #[.slice xa W.length xc, .slice ya F.length yc, .slice za n zc] 28)))
  have A2 := hide (below_alloc w2 (.cells #[.slice xa W.length xc, .slice ya F.length yc, .slice za n zc] 28))
  have N2 := hide (Bx3.new w2 (.slice xa W.length xc) (.slice ya F.length yc) (.slice za n zc) 28)
  have R2 := hide ((R1.out.below hb2).below A2.out)
  have W2 := hide (hW2.below A2.out)
  have F2 := hide (ownsRow_below hF2 A2.out)
  have G2 := hide (hG2.below A2.out)
  have D2 : Hid (RdF (w2.alloc (.cells #[.slice xa W.length xc, .slice ya F.length yc, .slice za n zc] 28)) xa W ya F za D P n) := hide ⟨(hW2.below A2.out).rd, reads_owned (ownsRow_below hF2 A2.out) rfl, (hG2.rd).below A2.out⟩
  have hyl : ∀ b, (Value.slice ya F.length yc).ownBlock = some b → b < w2.heap.size := fun b hb => (hF2.lt b hb).2
  have hxl : ∀ b, (Value.slice xa W.length xc).ownBlock = some b → b < w2.heap.size := fun b hb => (World.ownsRow.lt hW2 b hb).2
  have hsz3 : (w2.alloc (.cells #[.slice xa W.length xc, .slice ya F.length yc, .slice za n zc] 28)).heap.size = w2.heap.size + 1 := by simp
  have HYX := hide (And.intro hyl (And.intro hxl (And.intro hxT hsz3)))
  clear hb2 hW2 hF2 hG2 R1 HCP HIS X1 hyl hxl hxT hyT hsz3
  have HAS := hide (l10Ask_many w2.heap.size xa xc W ya yc F za zc n D P d _ N2.out D2.out hn hWl hFl HF1.out.1 HF1.out.2.2 HF1.out.2.1 h12)
  go_wp2_with fail
  generalize w2.alloc (.cells #[.slice xa W.length xc, .slice ya F.length yc, .slice za n zc] 28) = w3 at *
  refine HAS.out.mono ?_
  rintro e w3 ⟨rfl, rfl⟩
  go_wp2_with fail
  refine (l10Bad_any 2 w3).mono ?_
  rintro e w9 ⟨rfl, hb9⟩
  have B9 := hide (below_next B2.out hb9)
  obtain ⟨⟨m0, m1, m2, m3⟩, k0, k1, k2, k3⟩ := R2.out.below hb9
  clear hb9
  go_wp2_with fail
  have hk := Kept.fourF w9 (w.heap.size + 1) (.int .i64 2) (.slice none 0 0) (.slice none 0 0) (.slice none 0 0)
  exact bodyPost_ret (v := .agg #[.int .i64 2, .slice none 0 0, .slice none 0 0, .slice none 0 0]) (by simp [results, Tryz.results24, go_sem, m0, m1, m2, m3]) rfl (ResF.bad (B9.out.trans (hk.below (B := w.heap.size) B9.out.size (fun k hk e => by omega))))
set_option maxRecDepth 100000 in
set_option maxHeartbeats 6400000 in
theorem specAskFetch_new (wa : Option Addr) (wk : Nat) (W : List Wn) (fa : Option Addr) (fc : Nat) (F : List Int) (ca : Option Addr) (cc n : Nat) (D : Nat → Int) (P : Nat → List Int) (d : Int) (w : World) (h : RdF w wa W fa F ca D P n) (hn : n ≤ 1048576) (hP : SmallP P n) (hWl : W.length ≤ 1048576) (hFl : F.length ≤ 1048576) (hfc : F.length ≤ fc) (hz : fetFault W F D P n = 0) (hPl : ∀ i, i < n → 0 < (P i).length ∧ (P i).length ≤ 1048576) (hd : okD d) (hf : d ∉ F) (hnk : ∀ j, j < n → D j ≠ d) (hfi : ∀ j, j < W.length → (W.getD j (0, 0)).1 ≠ d) (h12 : ¬ 12 ≤ W.length) :
    Calls Tryz.prog 24 #[fetV wa W.length wk fa F.length fc ca n cc, .int .i64 d] w (ResF 0 (W ++ [(d, 0)]) F D P n w) := by
  have B0 := hide (below_next (below_alloc w (.cells #[.slice wa W.length wk, .slice fa F.length fc, .slice ca n cc] 28)) (below_alloc _ (.cells #[.int .i64 0, .slice none 0 0, .slice none 0 0, .slice none 0 0] 32)))
  have X0 := hide ((Bx3.new w (.slice wa W.length wk) (.slice fa F.length fc) (.slice ca n cc) 28).below (below_alloc _ (.cells #[.int .i64 0, .slice none 0 0, .slice none 0 0, .slice none 0 0] 32)))
  have R0 := hide (Bx4.new (w.alloc (.cells #[.slice wa W.length wk, .slice fa F.length fc, .slice ca n cc] 28)) (.int .i64 0) (.slice none 0 0) (.slice none 0 0) (.slice none 0 0) 32)
  have hs : (w.alloc (.cells #[.slice wa W.length wk, .slice fa F.length fc, .slice ca n cc] 28)).heap.size = w.heap.size + 1 := by simp
  rw [hs] at R0
  clear hs
  have HFF := hide (l10Fault_any w.heap.size wa wk W fa fc F ca cc n D P _ X0.out (h.below B0.out) hn hP hWl hFl hfc)
  rw [hz] at HFF
  have HIS := hide (fun (u : World) => dgS_any d u)
  rw [decide_eq_true hd] at HIS
  have HCP := hide (fun (u : World) (hb : Below w.heap.size w u) => l10Copy_any wa wk W fa fc F ca cc n D P u (h.below hb) hn hPl hWl hFl)
  have HF1 := hide (And.intro hf (And.intro hfi hnk))
  clear h hP hz hd hf hfi hnk
  unfold fetV at HCP ⊢
  go_enter Tryz.func24, Tryz.ntmps24
  go_wp2_with fail
  generalize (w.alloc (.cells #[.slice wa W.length wk, .slice fa F.length fc, .slice ca n cc] 28)).alloc (.cells #[.int .i64 0, .slice none 0 0, .slice none 0 0, .slice none 0 0] 32) = W0 at *
  refine HFF.out.mono ?_
  rintro e w1 ⟨rfl, hb1⟩
  have B1 := hide (below_next B0.out hb1)
  have X1 := hide (X0.out.below hb1)
  have R1 := hide (R0.out.below hb1)
  clear hb1 X0 R0 B0 HFF
  go_wp2_with fail
  refine (HIS.out w1).mono ?_
  rintro e w1 ⟨rfl, rfl⟩
  obtain ⟨⟨t0, t1, t2⟩, -, -, -⟩ := X1.out
  go_wp2_with fail
  clear t0 t1 t2
  refine (HCP.out w1 B1.out).mono ?_
  rintro e w2 ⟨xa, xc, ya, yc, za, zc, T, rfl, hW2, hF2, hG2, hT2, hxT, hyT, hb2⟩
  have hzw := B1.out.size
  have hz2 := hb2.size
  have hr1 := R1.out.lt
  have B2 := hide (below_next (below_next B1.out hb2) (below_alloc w2 (.cells #[.slice xa W.length xc, .slice ya F.length yc, .slice za n zc] 28)))
  have A2 := hide (below_alloc w2 (.cells #[.slice xa W.length xc, .slice ya F.length yc, .slice za n zc] 28))
  have N2 := hide (Bx3.new w2 (.slice xa W.length xc) (.slice ya F.length yc) (.slice za n zc) 28)
  have R2 := hide ((R1.out.below hb2).below A2.out)
  have W2 := hide (hW2.below A2.out)
  have F2 := hide (ownsRow_below hF2 A2.out)
  have G2 := hide (hG2.below A2.out)
  have D2 : Hid (RdF (w2.alloc (.cells #[.slice xa W.length xc, .slice ya F.length yc, .slice za n zc] 28)) xa W ya F za D P n) := hide ⟨(hW2.below A2.out).rd, reads_owned (ownsRow_below hF2 A2.out) rfl, (hG2.rd).below A2.out⟩
  have hyl : ∀ b, (Value.slice ya F.length yc).ownBlock = some b → b < w2.heap.size := fun b hb => (hF2.lt b hb).2
  have hxl : ∀ b, (Value.slice xa W.length xc).ownBlock = some b → b < w2.heap.size := fun b hb => (World.ownsRow.lt hW2 b hb).2
  have hsz3 : (w2.alloc (.cells #[.slice xa W.length xc, .slice ya F.length yc, .slice za n zc] 28)).heap.size = w2.heap.size + 1 := by simp
  have HYX := hide (And.intro hyl (And.intro hxl (And.intro hxT hsz3)))
  clear hb2 hW2 hF2 hG2 R1 HCP HIS X1 hyl hxl hxT hyT hsz3
  have HAS := hide (l10Ask_new w1.heap.size w2.heap.size xa xc W ya yc F za zc n D P d _ N2.out D2.out W2.out (by have := HYX.out.2.2.2; omega) (fun e => by have := HYX.out.2.1 _ e; omega) hn hWl hFl HF1.out.1 HF1.out.2.2 HF1.out.2.1 (by omega))
  go_wp2_with fail
  generalize w2.alloc (.cells #[.slice xa W.length xc, .slice ya F.length yc, .slice za n zc] 28) = w3 at *
  refine HAS.out.mono ?_
  rintro e w4 ⟨rfl, ua, uc, hX4, hW4, hK4⟩
  have hz4 := hK4.size
  have F4 := hide (ownsRow_kept F2.out hK4 (fun b hb e => by rcases e with e | e; (have := HYX.out.1 b hb; omega); exact rows_apart W2.out F2.out (by decide) e hb))
  have G4 := hide (G2.out.kept hK4 (fun b h1 h2 e => by rcases e with e | e; omega; (have := HYX.out.2.2.1 b e; omega)))
  have B4 := hide (B2.out.trans (hK4.below (B := w.heap.size) B2.out.size (fun k hk e => by rcases e with e | e; omega; (have := (World.ownsRow.lt W2.out k e).1; omega))))
  have R4 := hide (R2.out.kept hK4 (fun e => by rcases e with e | e; omega; (have := (World.ownsRow.lt W2.out _ e).1; omega)))
  have W4 := hide hW4
  obtain ⟨⟨s0, s1, s2⟩, -, -, -⟩ := hX4
  obtain ⟨⟨m0, m1, m2, m3⟩, k0, k1, k2, k3⟩ := R4.out
  clear hW4 hK4
  go_wp2_with fail
  exact bodyPost_ret (v := .agg #[.int .i64 0, .slice ua (W ++ [(d, (0 : Int))]).length uc, .slice ya F.length yc, .slice za n zc]) (by simp [results, Tryz.results24, go_sem, m0, m1, m2, m3]) rfl (ResF.box (B := w1.heap.size) W4.out F4.out ((G4.out.mono hT2).wide (by have := HYX.out.2.2.2; omega)) B4.out (by omega) (by omega))
end Go.Proofs.YtfamiehfpmjljaaGreatDoor

namespace Go.Proofs.YtfamiehfpmjljaaGreatDoor
open Go.RowKit Go.Maps
set_option linter.unusedVariables false

theorem first_of {f : Nat → Int} {d : Int} (i : Nat) (h : f i = d) : ∃ k, k ≤ i ∧ f k = d ∧ ∀ j, j < k → f j ≠ d := by
  induction i using Nat.strongRecOn with
  | ind i ih =>
    by_cases hx : ∃ j, j < i ∧ f j = d
    · obtain ⟨j, hj, e⟩ := hx
      obtain ⟨k, hk, e2, h3⟩ := ih j hj e
      exact ⟨k, by omega, e2, h3⟩
    · exact ⟨i, Nat.le_refl _, h, fun j hj e => hx ⟨j, hj, e⟩⟩
theorem fet_zero {W : List Wn} {F : List Int} {D : Nat → Int} {P : Nat → List Int} {n : Nat} (h : fetFault W F D P n = 0) : RightC D P n ∧ FitF W F (keysC D n) := by
  unfold fetFault at h
  split at h
  · rename_i h1; exact absurd h h1
  · rename_i h1
    exact ⟨fault_zero (Decidable.not_not.1 h1), lists_zero.1 h⟩
theorem fet_right {W : List Wn} {F : List Int} {D : Nat → Int} {P : Nat → List Int} {n : Nat} (h1 : RightC D P n) (h2 : FitF W F (keysC D n)) : fetFault W F D P n = 0 := by
  unfold fetFault
  rw [if_neg (by rw [fault_right h1]; simp)]
  exact lists_zero.2 h2
theorem want_at {W : List Wn} {d : Int} (h : d ∈ W.map Prod.fst) : ∃ i, i < W.length ∧ (W.getD i (0, 0)).1 = d ∧ ∀ j, j < i → (W.getD j (0, 0)).1 ≠ d := by
  obtain ⟨x, hx, rfl⟩ := List.mem_map.1 h
  obtain ⟨i, hi, e⟩ := List.getElem_of_mem hx
  have e2 : (W.getD i (0, 0)).1 = x.1 := by rw [List.getD_eq_getElem?_getD, List.getElem?_eq_getElem hi]; exact congrArg Prod.fst e
  obtain ⟨k, hk, e3, h3⟩ := first_of (f := fun j => (W.getD j (0, 0)).1) i e2
  exact ⟨k, by omega, e3, h3⟩
theorem want_no {W : List Wn} {d : Int} (h : d ∉ W.map Prod.fst) : ∀ j, j < W.length → (W.getD j (0, 0)).1 ≠ d := fun j hj e => h (List.mem_map.2 ⟨_, getD_mem (0, 0) hj, e⟩)
theorem want_other {W : List Wn} {d : Int} {i : Nat} (hn : (W.map Prod.fst).Nodup) (hi : i < W.length) (hd : (W.getD i (0, 0)).1 = d) : ∀ j, j < W.length → j ≠ i → (W.getD j (0, 0)).1 ≠ d := by
  intro j hj hne e
  rw [List.nodup_iff_pairwise_ne, List.pairwise_iff_getElem] at hn
  have g : ∀ k, (hk : k < W.length) → (W.map Prod.fst)[k]'(by simpa using hk) = (W.getD k (0, 0)).1 := fun k hk => by
    rw [List.getElem_map, List.getD_eq_getElem?_getD, List.getElem?_eq_getElem hk]; rfl
  rcases Nat.lt_or_gt_of_ne hne with h | h
  · exact hn j i (by simpa using hj) (by simpa using hi) h (by rw [g j hj, g i hi, e, hd])
  · exact hn i j (by simpa using hi) (by simpa using hj) h (by rw [g j hj, g i hi, e, hd])
end Go.Proofs.YtfamiehfpmjljaaGreatDoor

namespace Go.Proofs.YtfamiehfpmjljaaGreatDoor
open Go.RowKit Go.Maps
set_option linter.unusedVariables false

theorem below_drewN {B : Nat} {w w' : World} (h : Below B w w') : ∀ n, Below B w (w'.drewN n)
  | 0 => h
  | n + 1 => (below_drewN h n).drew
set_option maxHeartbeats 800000 in
theorem wantLit_any (p cb : Nat) (x d : Int) (w : World) (hp : w.cell? ⟨p, 0, none⟩ = some (.int .i64 x)) (hc : w.cell? ⟨cb, 0, none⟩ = some (.int .i64 d)) :
    Calls Tryz.prog 120 #[.pointer (some ⟨p, 0, none⟩), .pointer (some ⟨cb, 0, none⟩)] w fun e w' => e = .returned (.bool (x == d)) ∧ Below w.heap.size w w' := by
  go_enter Tryz.func120, Tryz.ntmps120
  go_wp2_with fail
  go_quiet (fail)
  go_wp2_with fail
  go_ret
  exact ⟨rfl, below_drewN (Below.refl _ _) _⟩
set_option maxRecDepth 100000 in
set_option maxHeartbeats 1600000 in
theorem indexFunc_one (a : Option Addr) (c i cb : Nat) (ps : List Nat) (W : List Wn) (d : Int) (w : World) (h : RdP w a ps W) (hl : W.length ≤ 1048576) (hi : i < W.length) (hd : (W.getD i (0, 0)).1 = d) (hf : ∀ j, j < i → (W.getD j (0, 0)).1 ≠ d) (hc : w.cell? ⟨cb, 0, none⟩ = some (.int .i64 d)) :
    Calls Tryz.prog 145 #[.slice a W.length c, .func (.func 120) #[] #[.pointer (some ⟨cb, 0, none⟩)]] w fun e w' => e = .returned (.int .i64 i) ∧ Below w.heap.size w w' := by
  have eg : ∀ args w, (callFunc 120 args).run Tryz.prog w = .ok (.enter 120 args) w := enters_of Tryz.func120 (by kernel_rfl) rfl
  have hcl := World.block_lt_of_cell? w ⟨cb, 0, none⟩ hc
  have HR := hide h
  have HF := hide hf
  have HD := hide hd
  have HCc := hide hc
  clear h hf hd hc
  go_enter Tryz.func145, Tryz.ntmps145
  go_wp2_with fail
  go_loopw [5, 8] (fun _ q wr => ∃ k : Nat, k ≤ i ∧ q = .int .i64 k ∧ Hid (Below w.heap.size w wr)) (fun _ q _ => W.length - (intOf q).toNat)
  case atStart => exact ⟨0, Nat.zero_le _, rfl, hide (Below.refl _ _)⟩
  case round =>
    obtain ⟨k, hk, rfl, BW⟩ := hrel
    have hlt : k < W.length := by omega
    obtain ⟨h1, h2, h3⟩ := HR.out.below BW.out
    obtain ⟨b1, o1, rfl, hb1, hc1⟩ := h3 (by intro e; simp [e] at hlt)
    have c1 := hc1 k hlt
    obtain ⟨e1, -⟩ := h2 k hlt
    have HLt := hide (wantLit_any (ps.getD k 0) cb (W.getD k (0, 0)).1 d wr e1 ((BW.out.cell (p := ⟨cb, 0, none⟩) hcl).trans HCc.out))
    generalize ps.getD k 0 = p at *
    unfold ptrV at c1
    have hklt : (k : Int) < (W.length : Int) := by omega
    clear h1 h2 h3 hc1 e1
    by_cases e : k = i
    · subst e
      rw [HD.out, show (d == d) = true by simp] at HLt
      go_wp2_with fail
      refine HLt.out.mono ?_
      rintro e w1 ⟨rfl, hb1'⟩
      have B1 := hide (below_next BW.out hb1')
      clear hb1'
      go_wp2_with fail
      go_ret
      exact ⟨rfl, B1.out⟩
    · rw [show ((W.getD k (0, 0)).1 == d) = false by simpa using HF.out k (by omega)] at HLt
      go_wp2_with fail
      refine HLt.out.mono ?_
      rintro e w1 ⟨rfl, hb1'⟩
      have B1 := hide (below_next BW.out hb1')
      clear hb1'
      go_wp2_with fail
      go_roundw
      case rel => exact ⟨k + 1, by omega, by go_num, B1⟩
      case measure => simp [intOf]; omega
def shiftE (ps : List Nat) (i m : Nat) : List Nat := (ps.eraseIdx i).take m ++ ps.drop m
theorem shiftE_start (ps : List Nat) {i : Nat} (hi : i < ps.length) : shiftE ps i i = ps := by
  unfold shiftE
  have h : (ps.eraseIdx i).take i = ps.take i := by
    apply List.ext_getElem?
    intro j
    by_cases hj : j < i
    · rw [List.getElem?_take, List.getElem?_take, if_pos hj, if_pos hj, List.getElem?_eraseIdx, if_pos hj]
    · rw [List.getElem?_take, List.getElem?_take, if_neg hj, if_neg hj]
  rw [h, List.take_append_drop]
theorem shiftE_length (ps : List Nat) {i m : Nat} (hi : i < ps.length) (hm : m + 1 ≤ ps.length) : (shiftE ps i m).length = ps.length := by
  simp [shiftE, List.length_eraseIdx, hi]; omega
theorem shiftE_next (ps : List Nat) {i m : Nat} (hi : i < ps.length) (him : i ≤ m) (hm : m + 1 < ps.length) : (shiftE ps i m).getD (m + 1) 0 = ps.getD (m + 1) 0 := by
  have h1 : ((ps.eraseIdx i).take m).length = m := by simp [List.length_eraseIdx, hi]; omega
  simp only [shiftE, List.getD_eq_getElem?_getD]
  rw [List.getElem?_append_right (by omega), h1, List.getElem?_drop]
  congr 2
  omega
theorem shiftE_step (ps : List Nat) {i m : Nat} (hi : i < ps.length) (him : i ≤ m) (hm : m + 1 < ps.length) : (shiftE ps i m).set m (ps.getD (m + 1) 0) = shiftE ps i (m + 1) := by
  have h1 : ((ps.eraseIdx i).take m).length = m := by simp [List.length_eraseIdx, hi]; omega
  have hel : (ps.eraseIdx i).length = ps.length - 1 := by simp [List.length_eraseIdx, hi]
  unfold shiftE
  rw [List.set_append_right _ _ (by omega), h1, Nat.sub_self]
  have hd : ps.drop m = ps[m] :: ps.drop (m + 1) := List.drop_eq_getElem_cons (by omega)
  rw [hd, List.set_cons_zero, List.take_add_one, List.getElem?_eq_getElem (by omega : m < (ps.eraseIdx i).length)]
  rw [List.append_assoc]
  congr 1
  have he : (ps.eraseIdx i)[m]'(by omega) = ps.getD (m + 1) 0 := by
    rw [List.getElem_eraseIdx_of_ge (by omega) him, List.getD_eq_getElem?_getD, List.getElem?_eq_getElem hm]
    rfl
  rw [he]
  rfl
theorem row_drop {w : World} {B g n c : Nat} {e : TypeId} {xs : List Value} (h : w.ownsRow B e 1 (.slice (some ⟨g, 0, none⟩) n c) n xs) (hn : 0 < n) : w.ownsRow B e 1 (.slice (some ⟨g, 0, none⟩) (n - 1) c) (n - 1) (xs.take (n - 1)) := by
  rcases h.2 with ⟨h', hh⟩ | ⟨g', cap, cur, h', hb, hh, hnc, hcm, hcs, htake⟩
  · omega
  · simp only [Value.slice.injEq, Option.some.injEq, Addr.mk.injEq, and_true, true_and] at h'
    obtain ⟨rfl, rfl⟩ := h'
    refine ⟨by have := h.1; simp at this ⊢; omega, .inr ⟨g, c, cur, rfl, hb, hh, by omega, hcm, hcs, ?_⟩⟩
    simp only [Nat.mul_one] at htake ⊢
    rw [← htake, List.take_take]
    congr 1
    omega
theorem getD_erase {α : Type} (l : List α) (z : α) {i j : Nat} : (l.eraseIdx i).getD j z = if j < i then l.getD j z else l.getD (j + 1) z := by
  rw [List.getD_eq_getElem?_getD, List.getElem?_eraseIdx]
  split <;> rw [List.getD_eq_getElem?_getD]
set_option maxRecDepth 100000 in
set_option maxHeartbeats 6400000 in
theorem deleteFunc_one (B g c i cb : Nat) (ps : List Nat) (W : List Wn) (d : Int) (w : World) (h : OwnP B w (.slice (some ⟨g, 0, none⟩) W.length c) ps W) (hl : W.length ≤ 1048576) (hi : i < W.length) (hd : (W.getD i (0, 0)).1 = d) (hf : ∀ j, j < W.length → j ≠ i → (W.getD j (0, 0)).1 ≠ d) (hc : w.cell? ⟨cb, 0, none⟩ = some (.int .i64 d)) (hcg : cb ≠ g) :
    Calls Tryz.prog 119 #[.slice (some ⟨g, 0, none⟩) W.length c, .func (.func 120) #[] #[.pointer (some ⟨cb, 0, none⟩)]] w fun e w' => e = .returned (.slice (some ⟨g, 0, none⟩) (W.length - 1) c) ∧ OwnP B w' (.slice (some ⟨g, 0, none⟩) (W.length - 1) c) (ps.eraseIdx i) (W.eraseIdx i) ∧ Kept (fun b => b = g) w w' := by
  have eg : ∀ args w, (callFunc 120 args).run Tryz.prog w = .ok (.enter 120 args) w := enters_of Tryz.func120 (by kernel_rfl) rfl
  have hcl := World.block_lt_of_cell? w ⟨cb, 0, none⟩ hc
  have HIX := hide (indexFunc_one (some ⟨g, 0, none⟩) c i cb ps W d w h.rd hl hi hd (fun j hj => hf j (by omega) (by omega)) hc)
  have HLen := hide h.len
  have hcap := ownsRow_cap h.row
  have hpl : i < ps.length := by have := h.len; omega
  have HO := hide h
  have HF := hide hf
  have HCc := hide hc
  have HPG : Hid (∀ j, j < W.length → ps.getD j 0 ≠ g) := hide (fun j hj => row_box h.row h.len.symm (h.box j hj).2.1 g rfl (by omega))
  have hi1 : ((i : Int) == -1) = false := by simp
  clear h hf hc hd
  go_enter Tryz.func119, Tryz.ntmps119
  go_wp2_with fail
  refine HIX.out.mono ?_
  rintro e w1 ⟨rfl, hb1⟩
  have B1 := hide hb1
  clear hb1 HIX
  go_wp2_with fail
  go_loopw [5, 6, 7] (fun m q _ wr => ∃ k : Nat, i ≤ k ∧ k + 1 ≤ W.length ∧ m = .int .i64 k ∧ q = .int .i64 (k + 1 : Nat) ∧ Hid (wr.ownsRow B 123 1 (.slice (some ⟨g, 0, none⟩) W.length c) W.length ((shiftE ps i k).map ptrV)) ∧ Hid (Kept (fun b => b = g) w wr)) (fun _ q _ _ => W.length - (intOf q).toNat)
  case atStart => exact ⟨i, Nat.le_refl _, by omega, rfl, rfl, hide (by rw [shiftE_start ps hpl]; exact ownsRow_below HO.out.row B1.out), hide (Kept.of_below B1.out)⟩
  case round =>
    obtain ⟨k, hik, hk, rfl, rfl, OR, KP⟩ := hrel
    have hk0 : (0 : Int) ≤ (k : Int) := by omega
    have hkl : k < ps.length := by have := HLen.out; omega
    have hsl : (shiftE ps i k).length = W.length := by have := shiftE_length ps hpl (by have := HLen.out; omega : k + 1 ≤ ps.length); have h2 := HLen.out; omega
    have hgl : g < wr.heap.size := (OR.out.lt g rfl).2
    by_cases hlt : k + 1 < W.length
    · have hcell := World.ownsRow.cellAt OR.out (k + 1) (by omega)
      have hcc : wr.cell? ⟨g, k + 1, none⟩ = some (ptrV (ps.getD (k + 1) 0)) := by
        have h1 : ((shiftE ps i k).map ptrV)[k + 1]? = some (ptrV ((shiftE ps i k).getD (k + 1) 0)) := by
          rw [List.getElem?_map, List.getElem?_eq_getElem (by omega : k + 1 < (shiftE ps i k).length), List.getD_eq_getElem?_getD, List.getElem?_eq_getElem (by omega : k + 1 < (shiftE ps i k).length)]
          rfl
        rw [h1, shiftE_next ps hpl hik (by have := HLen.out; omega)] at hcell
        exact hcell
      have hbx := (HO.out.box (k + 1) hlt).2.1
      have hpx : wr.cell? ⟨ps.getD (k + 1) 0, 0, none⟩ = some (.int .i64 (W.getD (k + 1) (0, 0)).1) := (KP.out.cell (p := ⟨ps.getD (k + 1) 0, 0, none⟩) hbx.lt (HPG.out (k + 1) hlt)).trans hbx.1
      have HST := hide (shiftE_step ps hpl hik (by have := HLen.out; omega : k + 1 < ps.length))
      have HLt := hide (wantLit_any (ps.getD (k + 1) 0) cb (W.getD (k + 1) (0, 0)).1 d wr hpx ((KP.out.cell (p := ⟨cb, 0, none⟩) hcl hcg).trans HCc.out))
      rw [show ((W.getD (k + 1) (0, 0)).1 == d) = false by simpa using HF.out (k + 1) hlt (by omega)] at HLt
      generalize ps.getD (k + 1) 0 = p at *
      unfold ptrV at hcc
      have hki : ((k + 1 : Nat) : Int) < (W.length : Int) := by omega
      have hki0 : (0 : Int) ≤ ((k + 1 : Nat) : Int) := by omega
      have hkw : (k : Int) < (W.length : Int) := by omega
      clear hcell hbx hpx
      go_wp2_with fail
      refine HLt.out.mono ?_
      rintro e w2 ⟨rfl, hb2⟩
      have R2 := hide (ownsRow_below OR.out hb2)
      have K2 := hide (KP.out.trans (Kept.of_below hb2))
      have m0 : ∃ u, w2.cell? ⟨g, k, none⟩ = some u := by
        have h1 := World.ownsRow.cellAt R2.out k (by omega)
        rw [List.getElem?_map, List.getElem?_eq_getElem (by omega : k < (shiftE ps i k).length)] at h1
        exact ⟨_, h1⟩
      obtain ⟨u0, m0⟩ := m0
      have m1 := World.ownsRow.frozenAt R2.out k
      clear hb2 hcc HLt
      go_wp2_with fail
      go_roundw
      case rel =>
        refine ⟨k + 1, by omega, by omega, by go_num, by go_num, hide ?_, hide (K2.out.trans (Kept.one w2 g k _))⟩
        have h1 := (R2.out.stored k (ptrV p)).1
        rw [← List.map_set, HST.out] at h1
        exact h1
      case measure => simp [intOf]; omega
    · have HKE := hide (show k + 1 = W.length by omega)
      have hkn : ¬ ((k + 1 : Nat) : Int) < (W.length : Int) := by omega
      have hkw : (k : Int) ≤ (W.length : Int) := by omega
      have hkc : (k : Int) ≤ (c : Int) := by omega
      have hwc : (W.length : Int) ≤ (c : Int) := by omega
      have m0 : ∃ u, wr.cell? ⟨g, k, none⟩ = some u := by
        have h1 := World.ownsRow.cellAt OR.out k (by omega)
        rw [List.getElem?_map, List.getElem?_eq_getElem (by omega : k < (shiftE ps i k).length)] at h1
        exact ⟨_, h1⟩
      obtain ⟨u0, m0⟩ := m0
      have m1 := World.ownsRow.frozenAt OR.out k
      have hclr : ∀ ty, (Builtin.clear_ #[95] ty #[.slice (some ⟨g, k, none⟩) (W.length - k) (c - k)]).run Tryz.prog wr = .ok (.tuple #[]) (wr.setCell ⟨g, k, none⟩ (.pointer none)) := fun ty => by
        rw [show W.length - k = 1 by omega]
        have h1 := Go.Lib.run_clear_slice (P := Tryz.prog) wr 95 123 ty (.pointer none) Tryz.underlying95 (fun _ => by kernel_rfl) rfl rfl g k 1 (c - k) (by omega) (fun j hj => by
          obtain rfl : j = 0 := by omega
          rw [Nat.add_zero, m0]; rfl) (fun j hj => by
          obtain rfl : j = 0 := by omega
          rw [Nat.add_zero]; exact m1)
        rw [h1]
        simp [World.setCells]
      have R3 : Hid ((wr.setCell ⟨g, k, none⟩ (.pointer none)).ownsRow B 123 1 (.slice (some ⟨g, 0, none⟩) W.length c) W.length (((shiftE ps i k).map ptrV).set k (.pointer none))) := hide (OR.out.stored k (.pointer none)).1
      have K3 := hide (KP.out.trans (Kept.one wr g k (.pointer none)))
      clear m0 m1
      go_wp2_with fail
      go_ret
      have e1 : W.length - 1 = k := by have := HKE.out; omega
      have e2 : (W.eraseIdx i).length = k := by rw [List.length_eraseIdx, if_pos hi]; exact e1
      have e3 : (ps.eraseIdx i).length = k := by rw [List.length_eraseIdx, if_pos hpl, HLen.out]; exact e1
      rw [e1]
      refine ⟨rfl, ⟨?_, by rw [e2, e3], fun j hj => ?_, List.Nodup.sublist (List.eraseIdx_sublist _ _) HO.out.one⟩, K3.out⟩
      · have h1 := row_drop R3.out (by omega)
        rw [e1] at h1
        rw [e2]
        have h2 : (((shiftE ps i k).map ptrV).set k (.pointer none)).take k = (ps.eraseIdx i).map ptrV := by
          rw [List.take_set_of_le (Nat.le_refl _), ← List.map_take]
          congr 1
          unfold shiftE
          rw [List.take_of_length_le (by omega : (ps.eraseIdx i).length ≤ k), List.take_append_of_le_length (by omega), List.take_of_length_le (by omega)]
        rw [h2] at h1
        exact h1
      · rw [e2] at hj
        rw [getD_erase, getD_erase]
        by_cases hji : j < i
        · simp only [if_pos hji]
          have hx := HO.out.box j (by omega)
          exact ⟨hx.1, hx.2.kept K3.out (HPG.out j (by omega))⟩
        · simp only [if_neg hji]
          have hx := HO.out.box (j + 1) (by have := HKE.out; omega)
          exact ⟨hx.1, hx.2.kept K3.out (HPG.out (j + 1) (by have := HKE.out; omega))⟩
set_option maxRecDepth 100000 in
set_option maxHeartbeats 3200000 in
theorem wantNoMore_any (B fb i : Nat) (W : List Wn) (F : List Int) (L : List Ch) (wa : Option Addr) (wk : Nat) (ps : List Nat) (fa : Option Addr) (fc bm N : Nat) (d : Int) (w : World) (h : NowF B fb w W F L wa wk ps fa fc bm N) (hB : B ≤ fb) (hl : W.length ≤ 1048576) (hi : i < W.length) (hd : (W.getD i (0, 0)).1 = d) (hf : ∀ j, j < W.length → j ≠ i → (W.getD j (0, 0)).1 ≠ d) :
    Calls Tryz.prog 89 #[.pointer (some ⟨fb, 0, none⟩), .int .i64 d] w fun e w' => e = .returned (.tuple #[]) ∧ NowF B fb w' (W.eraseIdx i) F L wa wk (ps.eraseIdx i) fa fc bm N ∧ Below fb w w' ∧ Kept (fun b => b = fb ∨ (Value.slice wa W.length wk).ownBlock = some b) w w' := by
  have hmf : ∀ (fn : Fn) (first cap : Array Value) (w : World), (Instr.makeFunc fn first cap).run Tryz.prog w = .ok (.func fn first cap) w := fun _ _ _ _ => rfl
  have A1 := hide (below_alloc w (.cells #[.int .i64 d] 2))
  have N1 := hide (h.below A1.out)
  have hfl := h.box.lt
  obtain ⟨g, cap, cur, hv, hgB, -⟩ : ∃ g cap cur, Value.slice wa W.length wk = .slice (some ⟨g, 0, none⟩) W.length cap ∧ fb + 1 ≤ g ∧ cur = () := by
    rcases h.wants.row.2 with ⟨h', hh⟩ | ⟨g, cap, cur, h', hb, _⟩
    · omega
    · exact ⟨g, cap, (), by simpa using h', hb, rfl⟩
  simp only [Value.slice.injEq, true_and] at hv
  obtain ⟨rfl, rfl⟩ := hv
  have hgl := (h.wants.row.lt g rfl).2
  have HDF := hide (deleteFunc_one (fb + 1) g wk i w.heap.size ps W d _ N1.out.wants hl hi hd hf (by simp) (by omega))
  have el : (W.eraseIdx i).length = W.length - 1 := by rw [List.length_eraseIdx, if_pos hi]
  obtain ⟨⟨x0, x1, x2⟩, x3, x4, x5⟩ := N1.out.box
  clear h hd hf
  go_enter Tryz.func89, Tryz.ntmps89
  go_wp2_with fail
  refine HDF.out.mono ?_
  rintro e w2 ⟨rfl, hO2, hk2⟩
  have O2 := hide hO2
  have K2 := hide hk2
  have X2 := hide (N1.out.box.kept hk2 (by omega))
  clear hO2 hk2 x0 x1 x2 x3 x4 x5
  obtain ⟨⟨x0, x1, x2⟩, x3, x4, x5⟩ := X2.out
  go_wp2_with fail
  have hk4 := Kept.one w2 fb 0 (.slice (some ⟨g, 0, none⟩) (W.length - 1) wk)
  refine bodyPost_end (v := .tuple #[]) (by simp [results, Tryz.results89, go_sem]) rfl ⟨rfl, ⟨?_, ?_, ?_, N1.out.ahead, ?_, N1.out.low, N1.out.high, N1.out.room⟩, ?_, ?_⟩
  · rw [el]; exact X2.out.set0 _
  · rw [el]; exact O2.out.kept hk4 (fun b hb e => by omega)
  · exact ownsRow_kept (ownsRow_kept N1.out.failed K2.out (fun b hb e => by have := N1.out.ahead b hb; omega)) hk4 (fun b hb e => by have := N1.out.ahead b hb; omega)
  · refine (N1.out.held.kept K2.out (fun e => ?_) (fun x hx => ?_)).kept hk4 (fun e => ?_) (fun x hx => ?_)
    · have h2 := N1.out.high; omega
    · omega
    · have h2 := N1.out.high; omega
    · omega
  · have hb2 : Below fb w (w.alloc (.cells #[.int .i64 d] 2)) := A1.out.mono (by omega)
    exact (hb2.trans (K2.out.below (B := fb) (by simp; omega) (fun j hj e => by omega))).setCell (Nat.le_refl _) _
  · exact ((Kept.of_below A1.out).trans (K2.out.mono (fun k hk e => Or.inr (by subst e; rfl)))).trans (hk4.mono (fun k hk e => Or.inl e))
end Go.Proofs.YtfamiehfpmjljaaGreatDoor

namespace Go.Proofs.YtfamiehfpmjljaaGreatDoor
open Go.RowKit Go.Maps
set_option linter.unusedVariables false

set_option maxHeartbeats 800000 in
theorem lostTry_more (p : Nat) (d t : Int) (w : World) (h : Box w p (.int .i64 d) (.int .i64 t)) (h0 : 0 ≤ t) (h3 : t + 1 < 3) :
    Calls Tryz.prog 96 #[.pointer (some ⟨p, 0, none⟩)] w fun e w' => e = .returned .nilIface ∧ w' = w.setCell ⟨p, 1, none⟩ (.int .i64 (t + 1)) := by
  obtain ⟨⟨m0, m1⟩, f0, f1⟩ := h
  have hw : IntKind.i64.wrap (t + 1) = t + 1 := by simp [IntKind.wrap, IntKind.signed, IntKind.bits]; omega
  have hs : (w.setCell ⟨p, 1, none⟩ (.int .i64 (t + 1))).cell? ⟨p, 1, none⟩ = some (.int .i64 (t + 1)) := cell_set_same m1
  go_enter Tryz.func96, Tryz.ntmps96
  go_wp2_with fail
  go_ret
  exact ⟨rfl, rfl⟩
set_option maxHeartbeats 800000 in
theorem lostTry_last (p : Nat) (d t : Int) (w : World) (h : Box w p (.int .i64 d) (.int .i64 t)) (h0 : 0 ≤ t) (h9 : t ≤ 9) (h3 : ¬ t + 1 < 3) :
    Calls Tryz.prog 96 #[.pointer (some ⟨p, 0, none⟩)] w fun e w' => e = .returned (.iface 131 (.agg #[.int .i64 d])) ∧ w' = w.setCell ⟨p, 1, none⟩ (.int .i64 (t + 1)) := by
  obtain ⟨⟨m0, m1⟩, f0, f1⟩ := h
  have hw : IntKind.i64.wrap (t + 1) = t + 1 := by simp [IntKind.wrap, IntKind.signed, IntKind.bits]; omega
  have hs : (w.setCell ⟨p, 1, none⟩ (.int .i64 (t + 1))).cell? ⟨p, 1, none⟩ = some (.int .i64 (t + 1)) := cell_set_same m1
  have hs0 : (w.setCell ⟨p, 1, none⟩ (.int .i64 (t + 1))).cell? ⟨p, 0, none⟩ = some (.int .i64 d) := by rw [cell_set_other (by simp)]; exact m0
  go_enter Tryz.func96, Tryz.ntmps96
  go_wp2_with fail
  go_ret
  exact ⟨rfl, rfl⟩
theorem getD_set {α : Type} (l : List α) (z x : α) {i j : Nat} (hi : i < l.length) : (l.set i x).getD j z = if j = i then x else l.getD j z := by
  rw [List.getD_eq_getElem?_getD, List.getElem?_set, List.getD_eq_getElem?_getD]
  by_cases h : i = j
  · subst h; simp [hi]
  · rw [if_neg h, if_neg (fun e => h e.symm)]
theorem OwnP.tries {B : Nat} {w : World} {v : Value} {ps : List Nat} {W : List Wn} (h : OwnP B w v ps W) {i : Nat} (hi : i < W.length) (d t : Int) (hd : (W.getD i (0, 0)).1 = d) : OwnP B (w.setCell ⟨ps.getD i 0, 1, none⟩ (.int .i64 t)) v ps (W.set i (d, t)) := by
  have hk := Kept.one w (ps.getD i 0) 1 (.int .i64 t)
  have hown : ∀ b, v.ownBlock = some b → b ≠ ps.getD i 0 := fun b hb e => row_box h.row h.len.symm (h.box i hi).2.1 b hb (by omega) e.symm
  refine ⟨by rw [List.length_set]; exact ownsRow_kept h.row hk (fun b hb e => hown b hb e), by rw [List.length_set]; exact h.len, fun j hj => ?_, h.one⟩
  rw [List.length_set] at hj
  rw [getD_set W (0, 0) (d, t) hi]
  by_cases e : j = i
  · subst e
    rw [if_pos rfl]
    obtain ⟨h1, ⟨m0, m1⟩, f0, f1⟩ := h.box j hj
    refine ⟨h1, ⟨?_, cell_set_same m1⟩, ?_, ?_⟩
    · rw [cell_set_other (by simp), ← hd]; exact m0
    · rw [World.frozen?_setCell]; exact f0
    · rw [World.frozen?_setCell]; exact f1
  · rw [if_neg e]
    refine ⟨(h.box j hj).1, (h.box j hj).2.kept hk (fun hq => e ?_)⟩
    have hn := h.one
    rw [List.nodup_iff_pairwise_ne, List.pairwise_iff_getElem] at hn
    have hj' : j < ps.length := by rw [h.len]; exact hj
    have hi' : i < ps.length := by rw [h.len]; exact hi
    rw [List.getD_eq_getElem?_getD, List.getElem?_eq_getElem hj', List.getD_eq_getElem?_getD, List.getElem?_eq_getElem hi'] at hq
    rcases Nat.lt_trichotomy j i with hlt | heq | hlt
    · exact absurd hq (hn j i hj' hi' hlt)
    · exact heq
    · exact absurd hq.symm (hn i j hi' hj' hlt)
set_option maxRecDepth 100000 in
set_option maxHeartbeats 1600000 in
theorem lose_none (B fb : Nat) (W : List Wn) (F : List Int) (L : List Ch) (wa : Option Addr) (wk : Nat) (ps : List Nat) (fa : Option Addr) (fc bm N : Nat) (d : Int) (a0 a1 : Addr) (w : World) (hg : Ge w a0 a1) (h : NowF B fb w W F L wa wk ps fa fc bm N) (hl : W.length ≤ 1048576) (hf : ∀ j, j < W.length → (W.getD j (0, 0)).1 ≠ d) :
    Calls Tryz.prog 58 #[.pointer (some ⟨fb, 0, none⟩), .int .i64 d] w fun e w' => e = .returned (.iface 262 (.pointer (some a0))) ∧ w' = w := by
  have HW := hide (wanted_no fb wa wk ps W d w h.box.1.1 h.wants.rd hl hf)
  have g0 := hg.e0
  clear h hg hf
  go_enter Tryz.func58, Tryz.ntmps58
  go_wp2_with fail
  refine HW.out.mono ?_
  rintro e w ⟨rfl, rfl⟩
  go_wp2_with fail
  go_ret
  exact ⟨rfl, rfl⟩
set_option maxRecDepth 100000 in
set_option maxHeartbeats 3200000 in
theorem lose_more (B fb i : Nat) (W : List Wn) (F : List Int) (L : List Ch) (wa : Option Addr) (wk : Nat) (ps : List Nat) (fa : Option Addr) (fc bm N : Nat) (d t : Int) (w : World) (h : NowF B fb w W F L wa wk ps fa fc bm N) (hB : B ≤ fb) (hl : W.length ≤ 1048576) (hi : i < W.length) (hd : W.getD i (0, 0) = (d, t)) (hf : ∀ j, j < i → (W.getD j (0, 0)).1 ≠ d) (h0 : 0 ≤ t) (h3 : t + 1 < 3) :
    Calls Tryz.prog 58 #[.pointer (some ⟨fb, 0, none⟩), .int .i64 d] w fun e w' => e = .returned .nilIface ∧ NowF B fb w' (W.set i (d, t + 1)) F L wa wk ps fa fc bm N ∧ Below fb w w' := by
  have hd1 : (W.getD i (0, 0)).1 = d := by rw [hd]
  have HW := hide (wanted_yes fb wa wk i ps W d w h.box.1.1 h.wants.rd hl hi hd1 hf (ps.getD i 0) rfl)
  have A1 := hide (below_alloc w (.cells #[.int .i64 0] 131))
  have N1 := hide (h.below A1.out)
  have hbx := (N1.out.wants.box i hi)
  rw [hd] at hbx
  have HLT := hide (lostTry_more (ps.getD i 0) d t _ hbx.2 h0 h3)
  have hpl := hbx.1
  have HT := hide (N1.out.wants.tries hi d (t + 1) hd1)
  have hfl := h.box.lt
  clear h hf hbx hd hd1
  generalize ps.getD i 0 = p at *
  go_enter Tryz.func58, Tryz.ntmps58
  go_wp2_with fail
  refine HW.out.mono ?_
  rintro e w ⟨rfl, rfl⟩
  go_wp2_with fail
  refine HLT.out.mono ?_
  rintro e w2 ⟨rfl, rfl⟩
  go_wp2_with fail
  refine (as_nil _ _).mono ?_
  rintro e w2 ⟨rfl, rfl⟩
  go_wp2_with fail
  go_ret
  have hk := Kept.one (w.alloc (.cells #[.int .i64 0] 131)) p 1 (.int .i64 (t + 1))
  have hel : (W.set i (d, t + 1)).length = W.length := List.length_set
  refine ⟨rfl, ⟨?_, ?_, ?_, N1.out.ahead, ?_, N1.out.low, N1.out.high, N1.out.room⟩, ?_⟩
  · rw [hel]; exact N1.out.box.kept hk (by omega)
  · rw [hel]; exact HT.out
  · exact ownsRow_kept N1.out.failed hk (fun b hb e => by have := N1.out.ahead b hb; omega)
  · exact N1.out.held.kept hk (by have := N1.out.high; omega) (fun x hx => by omega)
  · have hb2 : Below fb w (w.alloc (.cells #[.int .i64 0] 131)) := A1.out.mono (by omega)
    exact hb2.setCell (by show fb ≤ p; omega) _
theorem row_map {w : World} {B bm N T s n : Nat} {e : TypeId} {v : Value} {xs : List Value} {L : List Ch} (h : w.ownsRow B e s v n xs) (hH : Holds w bm N L T) : ∀ b, v.ownBlock = some b → b ≠ bm := by
  rintro b hb rfl
  obtain ⟨Dt, A, C, ⟨es, clock, hh, r⟩, _⟩ := hH
  rcases h.2 with ⟨h', _⟩ | ⟨g, cap, cur, rfl, hg, hgg, _⟩
  · rw [h'] at hb; simp [Value.ownBlock] at hb
  · simp only [Value.ownBlock, Option.some.injEq] at hb
    subst hb
    rw [hh] at hgg
    cases hgg
structure EndF (B fb : Nat) (w : World) (W : List Wn) (F : List Int) (L : List Ch) (wa : Option Addr) (wk : Nat) (ps : List Nat) (fa : Option Addr) (fc bm N : Nat) : Prop where
  box : Bx3 w fb (.slice wa W.length wk) (.slice fa F.length fc) (.map (some bm))
  wants : RdP w wa ps W
  failed : w.ownsRow B 2 1 (.slice fa F.length fc) F.length (F.map (Value.int .i64))
  held : Holds w bm N L B
theorem NowF.end {B fb : Nat} {w : World} {W : List Wn} {F : List Int} {L : List Ch} {wa : Option Addr} {wk : Nat} {ps : List Nat} {fa : Option Addr} {fc bm N : Nat} (h : NowF B fb w W F L wa wk ps fa fc bm N) : EndF B fb w W F L wa wk ps fa fc bm N := ⟨h.box, h.wants.rd, h.failed, h.held⟩
set_option maxRecDepth 100000 in
set_option maxHeartbeats 6400000 in
theorem lose_full (B fb i : Nat) (W : List Wn) (F : List Int) (L : List Ch) (wa : Option Addr) (wk : Nat) (ps : List Nat) (fa : Option Addr) (fc bm N : Nat) (d t : Int) (a0 a1 : Addr) (w : World) (hg : Ge w a0 a1) (hgl : ∀ u : World, Below B w u → Ge u a0 a1) (h : NowF B fb w W F L wa wk ps fa fc bm N) (hB : B ≤ fb) (hl : W.length ≤ 1048576) (hi : i < W.length) (hd : W.getD i (0, 0) = (d, t)) (hf : ∀ j, j < i → (W.getD j (0, 0)).1 ≠ d) (h0 : 0 ≤ t) (h9 : t ≤ 9) (h3 : ¬ t + 1 < 3) (h40 : 40 ≤ F.length) :
    Calls Tryz.prog 58 #[.pointer (some ⟨fb, 0, none⟩), .int .i64 d] w fun e w' => e = .returned (.iface 262 (.pointer (some a1))) ∧ Below fb w w' := by
  have hd1 : (W.getD i (0, 0)).1 = d := by rw [hd]
  have HW := hide (wanted_yes fb wa wk i ps W d w h.box.1.1 h.wants.rd hl hi hd1 hf (ps.getD i 0) rfl)
  have A1 := hide (below_alloc w (.cells #[.int .i64 0] 131))
  have N1 := hide (h.below A1.out)
  have hbx := (N1.out.wants.box i hi)
  rw [hd] at hbx
  have HLT := hide (lostTry_last (ps.getD i 0) d t _ hbx.2 h0 h9 h3)
  have hpl := hbx.1
  have hplt := (h.wants.box i hi).2.1.lt
  have hfl := h.box.lt
  have HGL := hide hgl
  have h41 : (40 : Int) ≤ (F.length : Int) := by omega
  clear hf hbx hd hd1 hg hgl
  generalize ps.getD i 0 = p at *
  have HB2 : Hid (Below fb w ((w.alloc (.cells #[.int .i64 0] 131)).setCell ⟨p, 1, none⟩ (.int .i64 (t + 1)))) := hide ((A1.out.mono (by omega)).setCell (by show fb ≤ p; omega) _)
  have hk1 := Kept.one (w.alloc (.cells #[.int .i64 0] 131)) p 1 (.int .i64 (t + 1))
  have X2 := hide (N1.out.box.kept hk1 (by omega))
  have HAH := hide (as_hit d w.heap.size (.int .i64 0) _ (HGL.out _ (HB2.out.mono hB)).ty (by rw [cell_set_far (by omega) (by simp : (w.alloc (.cells #[.int .i64 0] 131)).cell? ⟨w.heap.size, 0, none⟩ = some (.int .i64 0))]) (by rw [World.frozen?_setCell]; simp))
  clear h hk1
  go_enter Tryz.func58, Tryz.ntmps58
  go_wp2_with fail
  refine HW.out.mono ?_
  rintro e w ⟨rfl, rfl⟩
  go_wp2_with fail
  have hsw : w.heap.size < (w.alloc (.cells #[.int .i64 0] 131)).heap.size := by simp
  generalize w.alloc (.cells #[.int .i64 0] 131) = W1 at *
  generalize w.heap.size = q at *
  refine HLT.out.mono ?_
  rintro e w2 ⟨rfl, rfl⟩
  go_wp2_with fail
  refine HAH.out.mono ?_
  rintro e w3 ⟨rfl, hc3, hf3, hk3⟩
  have HB3 := hide (HB2.out.trans (hk3.below (B := fb) (by simp [World.setCell]; omega) (fun k hk e => by omega)))
  obtain ⟨⟨x0, x1, x2⟩, x3, x4, x5⟩ := X2.out.kept hk3 (by omega)
  have g1 := (HGL.out _ (HB3.out.mono hB)).e1
  clear hk3
  go_wp2_with fail
  go_ret
  exact ⟨rfl, HB3.out⟩
end Go.Proofs.YtfamiehfpmjljaaGreatDoor

