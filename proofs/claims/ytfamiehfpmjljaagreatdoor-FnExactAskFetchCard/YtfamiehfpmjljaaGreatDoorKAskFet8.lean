/-
  Texts put together: FetY FetI FetK.
-/
import Derived.Test.YtfamiehfpmjljaaGreatDoorKAskFet7
import Derived.Lib.SliceRun
import Derived.Deep.QuietTactic
import Derived.Deep.RegionLaw
namespace Go.Proofs.YtfamiehfpmjljaaGreatDoor
open Go.RowKit Go.Maps
set_option linter.unusedVariables false
set_option maxRecDepth 100000 in
set_option maxHeartbeats 6400000 in
theorem specAskFetch_away (wa : Option Addr) (wk : Nat) (W : List Wn) (fa : Option Addr) (fc : Nat) (F : List Int) (ca : Option Addr) (cc n : Nat) (D : Nat → Int) (P : Nat → List Int) (d : Int) (w : World) (h : RdF w wa W fa F ca D P n) (hn : n ≤ 1048576) (hP : SmallP P n) (hWl : W.length ≤ 1048576) (hFl : F.length ≤ 1048576) (hfc : F.length ≤ fc) (hz : fetFault W F D P n = 0) (hPl : ∀ i, i < n → 0 < (P i).length ∧ (P i).length ≤ 1048576) (hd : okD d) (hf : d ∈ F) :
    Calls Tryz.prog 24 #[fetV wa W.length wk fa F.length fc ca n cc, .int .i64 d] w (ResF 8 [] [] D P 0 w) := by
  have B0 := hide (below_next (below_alloc w (.cells #[.slice wa W.length wk, .slice fa F.length fc, .slice ca n cc] 28)) (below_alloc _ (.cells #[.int .i64 0, .slice none 0 0, .slice none 0 0, .slice none 0 0] 32)))
  have X0 := hide ((Bx3.new w (.slice wa W.length wk) (.slice fa F.length fc) (.slice ca n cc) 28).below (below_alloc _ (.cells #[.int .i64 0, .slice none 0 0, .slice none 0 0, .slice none 0 0] 32)))
  have R0 := hide (Bx4.new (w.alloc (.cells #[.slice wa W.length wk, .slice fa F.length fc, .slice ca n cc] 28)) (.int .i64 0) (.slice none 0 0) (.slice none 0 0) (.slice none 0 0) 32)
  have hs : (w.alloc (.cells #[.slice wa W.length wk, .slice fa F.length fc, .slice ca n cc] 28)).heap.size = w.heap.size + 1 := by simp
  rw [hs] at R0
  clear hs
  have HFF := hide (l10Fault_any w.heap.size wa wk W fa fc F ca cc n D P _ X0.out (h.below B0.out) hn hP hWl hFl hfc)
  rw [hz] at HFF
  have HIS := hide (fun (u : World) => dgS_any d u)
  rw [decide_eq_true hd] at HIS
  have HCP := hide (fun (u : World) (hb : Below w.heap.size w u) => l10Copy_any wa wk W fa fc F ca cc n D P u (h.below hb) hn hPl hWl hFl)
  have HF1 := hide hf
  clear h hP hz hd hf
  unfold fetV at HCP ⊢
  go_enter Tryz.func24, Tryz.ntmps24
  go_wp2_with fail
  generalize (w.alloc (.cells #[.slice wa W.length wk, .slice fa F.length fc, .slice ca n cc] 28)).alloc (.cells #[.int .i64 0, .slice none 0 0, .slice none 0 0, .slice none 0 0] 32) = W0 at *
  refine HFF.out.mono ?_
  rintro e w1 ⟨rfl, hb1⟩
  have B1 := hide (below_next B0.out hb1)
  have X1 := hide (X0.out.below hb1)
  have R1 := hide (R0.out.below hb1)
  clear hb1 X0 R0 B0 HFF
  go_wp2_with fail
  refine (HIS.out w1).mono ?_
  rintro e w1 ⟨rfl, rfl⟩
  obtain ⟨⟨t0, t1, t2⟩, -, -, -⟩ := X1.out
  go_wp2_with fail
  clear t0 t1 t2
  refine (HCP.out w1 B1.out).mono ?_
  rintro e w2 ⟨xa, xc, ya, yc, za, zc, T, rfl, hW2, hF2, hG2, hT2, hxT, hyT, hb2⟩
  have hzw := B1.out.size
  have hz2 := hb2.size
  have hr1 := R1.out.lt
  have B2 := hide (below_next (below_next B1.out hb2) (below_alloc w2 (.cells #[.slice xa W.length xc, .slice ya F.length yc, .slice za n zc] 28)))
  have A2 := hide (below_alloc w2 (.cells #[.slice xa W.length xc, .slice ya F.length yc, .slice za n zc] 28))
  have N2 := hide (Bx3.new w2 (.slice xa W.length xc) (.slice ya F.length yc) (.slice za n zc) 28)
  have R2 := hide ((R1.out.below hb2).below A2.out)
  have W2 := hide (hW2.below A2.out)
  have F2 := hide (ownsRow_below hF2 A2.out)
  have G2 := hide (hG2.below A2.out)
  have D2 : Hid (RdF (w2.alloc (.cells #[.slice xa W.length xc, .slice ya F.length yc, .slice za n zc] 28)) xa W ya F za D P n) := hide ⟨(hW2.below A2.out).rd, reads_owned (ownsRow_below hF2 A2.out) rfl, (hG2.rd).below A2.out⟩
  have hyl : ∀ b, (Value.slice ya F.length yc).ownBlock = some b → b < w2.heap.size := fun b hb => (hF2.lt b hb).2
  have hxl : ∀ b, (Value.slice xa W.length xc).ownBlock = some b → b < w2.heap.size := fun b hb => (World.ownsRow.lt hW2 b hb).2
  have hsz3 : (w2.alloc (.cells #[.slice xa W.length xc, .slice ya F.length yc, .slice za n zc] 28)).heap.size = w2.heap.size + 1 := by simp
  have HYX := hide (And.intro hyl (And.intro hxl (And.intro hxT hsz3)))
  clear hb2 hW2 hF2 hG2 R1 HCP HIS X1 hyl hxl hxT hyT hsz3
  have HAS := hide (l10Ask_failed w2.heap.size xa xc W ya yc F za zc n D P d _ N2.out D2.out hFl HF1.out)
  go_wp2_with fail
  generalize w2.alloc (.cells #[.slice xa W.length xc, .slice ya F.length yc, .slice za n zc] 28) = w3 at *
  refine HAS.out.mono ?_
  rintro e w3 ⟨rfl, rfl⟩
  go_wp2_with fail
  refine (l10Bad_any 8 w3).mono ?_
  rintro e w9 ⟨rfl, hb9⟩
  have B9 := hide (below_next B2.out hb9)
  obtain ⟨⟨m0, m1, m2, m3⟩, k0, k1, k2, k3⟩ := R2.out.below hb9
  clear hb9
  go_wp2_with fail
  have hk := Kept.fourF w9 (w.heap.size + 1) (.int .i64 8) (.slice none 0 0) (.slice none 0 0) (.slice none 0 0)
  exact bodyPost_ret (v := .agg #[.int .i64 8, .slice none 0 0, .slice none 0 0, .slice none 0 0]) (by simp [results, Tryz.results24, go_sem, m0, m1, m2, m3]) rfl (ResF.bad (B9.out.trans (hk.below (B := w.heap.size) B9.out.size (fun k hk e => by omega))))
set_option maxRecDepth 100000 in
set_option maxHeartbeats 6400000 in
theorem specAskFetch_held (wa : Option Addr) (wk : Nat) (W : List Wn) (fa : Option Addr) (fc : Nat) (F : List Int) (ca : Option Addr) (cc n : Nat) (D : Nat → Int) (P : Nat → List Int) (d : Int) (w : World) (h : RdF w wa W fa F ca D P n) (hn : n ≤ 1048576) (hP : SmallP P n) (hWl : W.length ≤ 1048576) (hFl : F.length ≤ 1048576) (hfc : F.length ≤ fc) (hz : fetFault W F D P n = 0) (hPl : ∀ i, i < n → 0 < (P i).length ∧ (P i).length ≤ 1048576) (hd : okD d) (hf : d ∉ F) (i : Nat) (hi : i < n) (hdi : D i = d) (hfi : ∀ j, j < i → D j ≠ d) :
    Calls Tryz.prog 24 #[fetV wa W.length wk fa F.length fc ca n cc, .int .i64 d] w (ResF 0 W F D P n w) := by
  have B0 := hide (below_next (below_alloc w (.cells #[.slice wa W.length wk, .slice fa F.length fc, .slice ca n cc] 28)) (below_alloc _ (.cells #[.int .i64 0, .slice none 0 0, .slice none 0 0, .slice none 0 0] 32)))
  have X0 := hide ((Bx3.new w (.slice wa W.length wk) (.slice fa F.length fc) (.slice ca n cc) 28).below (below_alloc _ (.cells #[.int .i64 0, .slice none 0 0, .slice none 0 0, .slice none 0 0] 32)))
  have R0 := hide (Bx4.new (w.alloc (.cells #[.slice wa W.length wk, .slice fa F.length fc, .slice ca n cc] 28)) (.int .i64 0) (.slice none 0 0) (.slice none 0 0) (.slice none 0 0) 32)
  have hs : (w.alloc (.cells #[.slice wa W.length wk, .slice fa F.length fc, .slice ca n cc] 28)).heap.size = w.heap.size + 1 := by simp
  rw [hs] at R0
  clear hs
  have HFF := hide (l10Fault_any w.heap.size wa wk W fa fc F ca cc n D P _ X0.out (h.below B0.out) hn hP hWl hFl hfc)
  rw [hz] at HFF
  have HIS := hide (fun (u : World) => dgS_any d u)
  rw [decide_eq_true hd] at HIS
  have HCP := hide (fun (u : World) (hb : Below w.heap.size w u) => l10Copy_any wa wk W fa fc F ca cc n D P u (h.below hb) hn hPl hWl hFl)
  have HF1 := hide (And.intro hf (And.intro hdi hfi))
  clear h hP hz hd hf hdi hfi
  unfold fetV at HCP ⊢
  go_enter Tryz.func24, Tryz.ntmps24
  go_wp2_with fail
  generalize (w.alloc (.cells #[.slice wa W.length wk, .slice fa F.length fc, .slice ca n cc] 28)).alloc (.cells #[.int .i64 0, .slice none 0 0, .slice none 0 0, .slice none 0 0] 32) = W0 at *
  refine HFF.out.mono ?_
  rintro e w1 ⟨rfl, hb1⟩
  have B1 := hide (below_next B0.out hb1)
  have X1 := hide (X0.out.below hb1)
  have R1 := hide (R0.out.below hb1)
  clear hb1 X0 R0 B0 HFF
  go_wp2_with fail
  refine (HIS.out w1).mono ?_
  rintro e w1 ⟨rfl, rfl⟩
  obtain ⟨⟨t0, t1, t2⟩, -, -, -⟩ := X1.out
  go_wp2_with fail
  clear t0 t1 t2
  refine (HCP.out w1 B1.out).mono ?_
  rintro e w2 ⟨xa, xc, ya, yc, za, zc, T, rfl, hW2, hF2, hG2, hT2, hxT, hyT, hb2⟩
  have hzw := B1.out.size
  have hz2 := hb2.size
  have hr1 := R1.out.lt
  have B2 := hide (below_next (below_next B1.out hb2) (below_alloc w2 (.cells #[.slice xa W.length xc, .slice ya F.length yc, .slice za n zc] 28)))
  have A2 := hide (below_alloc w2 (.cells #[.slice xa W.length xc, .slice ya F.length yc, .slice za n zc] 28))
  have N2 := hide (Bx3.new w2 (.slice xa W.length xc) (.slice ya F.length yc) (.slice za n zc) 28)
  have R2 := hide ((R1.out.below hb2).below A2.out)
  have W2 := hide (hW2.below A2.out)
  have F2 := hide (ownsRow_below hF2 A2.out)
  have G2 := hide (hG2.below A2.out)
  have D2 : Hid (RdF (w2.alloc (.cells #[.slice xa W.length xc, .slice ya F.length yc, .slice za n zc] 28)) xa W ya F za D P n) := hide ⟨(hW2.below A2.out).rd, reads_owned (ownsRow_below hF2 A2.out) rfl, (hG2.rd).below A2.out⟩
  have hyl : ∀ b, (Value.slice ya F.length yc).ownBlock = some b → b < w2.heap.size := fun b hb => (hF2.lt b hb).2
  have hxl : ∀ b, (Value.slice xa W.length xc).ownBlock = some b → b < w2.heap.size := fun b hb => (World.ownsRow.lt hW2 b hb).2
  have hsz3 : (w2.alloc (.cells #[.slice xa W.length xc, .slice ya F.length yc, .slice za n zc] 28)).heap.size = w2.heap.size + 1 := by simp
  have HYX := hide (And.intro hyl (And.intro hxl (And.intro hxT hsz3)))
  clear hb2 hW2 hF2 hG2 R1 HCP HIS X1 hyl hxl hxT hyT hsz3
  have HAS := hide (l10Ask_held w2.heap.size i xa xc W ya yc F za zc n D P d _ N2.out D2.out hn hFl HF1.out.1 hi HF1.out.2.1 HF1.out.2.2)
  go_wp2_with fail
  generalize w2.alloc (.cells #[.slice xa W.length xc, .slice ya F.length yc, .slice za n zc] 28) = w3 at *
  refine HAS.out.mono ?_
  rintro e w3 ⟨rfl, rfl⟩
  obtain ⟨⟨s0, s1, s2⟩, -, -, -⟩ := N2.out
  obtain ⟨⟨m0, m1, m2, m3⟩, k0, k1, k2, k3⟩ := R2.out
  go_wp2_with fail
  exact bodyPost_ret (v := .agg #[.int .i64 0, .slice xa W.length xc, .slice ya F.length yc, .slice za n zc]) (by simp [results, Tryz.results24, go_sem, m0, m1, m2, m3]) rfl (ResF.box (B := w1.heap.size) W2.out F2.out ((G2.out.mono hT2).wide (by have := HYX.out.2.2.2; omega)) B2.out (by omega) (by omega))
set_option maxRecDepth 100000 in
set_option maxHeartbeats 6400000 in
theorem specAskFetch_wanted (wa : Option Addr) (wk : Nat) (W : List Wn) (fa : Option Addr) (fc : Nat) (F : List Int) (ca : Option Addr) (cc n : Nat) (D : Nat → Int) (P : Nat → List Int) (d : Int) (w : World) (h : RdF w wa W fa F ca D P n) (hn : n ≤ 1048576) (hP : SmallP P n) (hWl : W.length ≤ 1048576) (hFl : F.length ≤ 1048576) (hfc : F.length ≤ fc) (hz : fetFault W F D P n = 0) (hPl : ∀ i, i < n → 0 < (P i).length ∧ (P i).length ≤ 1048576) (hd : okD d) (hf : d ∉ F) (hnk : ∀ j, j < n → D j ≠ d) (i : Nat) (hi : i < W.length) (hdi : (W.getD i (0, 0)).1 = d) (hfi : ∀ j, j < i → (W.getD j (0, 0)).1 ≠ d) :
    Calls Tryz.prog 24 #[fetV wa W.length wk fa F.length fc ca n cc, .int .i64 d] w (ResF 0 W F D P n w) := by
  have B0 := hide (below_next (below_alloc w (.cells #[.slice wa W.length wk, .slice fa F.length fc, .slice ca n cc] 28)) (below_alloc _ (.cells #[.int .i64 0, .slice none 0 0, .slice none 0 0, .slice none 0 0] 32)))
  have X0 := hide ((Bx3.new w (.slice wa W.length wk) (.slice fa F.length fc) (.slice ca n cc) 28).below (below_alloc _ (.cells #[.int .i64 0, .slice none 0 0, .slice none 0 0, .slice none 0 0] 32)))
  have R0 := hide (Bx4.new (w.alloc (.cells #[.slice wa W.length wk, .slice fa F.length fc, .slice ca n cc] 28)) (.int .i64 0) (.slice none 0 0) (.slice none 0 0) (.slice none 0 0) 32)
  have hs : (w.alloc (.cells #[.slice wa W.length wk, .slice fa F.length fc, .slice ca n cc] 28)).heap.size = w.heap.size + 1 := by simp
  rw [hs] at R0
  clear hs
  have HFF := hide (l10Fault_any w.heap.size wa wk W fa fc F ca cc n D P _ X0.out (h.below B0.out) hn hP hWl hFl hfc)
  rw [hz] at HFF
  have HIS := hide (fun (u : World) => dgS_any d u)
  rw [decide_eq_true hd] at HIS
  have HCP := hide (fun (u : World) (hb : Below w.heap.size w u) => l10Copy_any wa wk W fa fc F ca cc n D P u (h.below hb) hn hPl hWl hFl)
  have HF1 := hide (And.intro hf (And.intro hdi (And.intro hfi hnk)))
  clear h hP hz hd hf hdi hfi hnk
  unfold fetV at HCP ⊢
  go_enter Tryz.func24, Tryz.ntmps24
  go_wp2_with fail
  generalize (w.alloc (.cells #[.slice wa W.length wk, .slice fa F.length fc, .slice ca n cc] 28)).alloc (.cells #[.int .i64 0, .slice none 0 0, .slice none 0 0, .slice none 0 0] 32) = W0 at *
  refine HFF.out.mono ?_
  rintro e w1 ⟨rfl, hb1⟩
  have B1 := hide (below_next B0.out hb1)
  have X1 := hide (X0.out.below hb1)
  have R1 := hide (R0.out.below hb1)
  clear hb1 X0 R0 B0 HFF
  go_wp2_with fail
  refine (HIS.out w1).mono ?_
  rintro e w1 ⟨rfl, rfl⟩
  obtain ⟨⟨t0, t1, t2⟩, -, -, -⟩ := X1.out
  go_wp2_with fail
  clear t0 t1 t2
  refine (HCP.out w1 B1.out).mono ?_
  rintro e w2 ⟨xa, xc, ya, yc, za, zc, T, rfl, hW2, hF2, hG2, hT2, hxT, hyT, hb2⟩
  have hzw := B1.out.size
  have hz2 := hb2.size
  have hr1 := R1.out.lt
  have B2 := hide (below_next (below_next B1.out hb2) (below_alloc w2 (.cells #[.slice xa W.length xc, .slice ya F.length yc, .slice za n zc] 28)))
  have A2 := hide (below_alloc w2 (.cells #[.slice xa W.length xc, .slice ya F.length yc, .slice za n zc] 28))
  have N2 := hide (Bx3.new w2 (.slice xa W.length xc) (.slice ya F.length yc) (.slice za n zc) 28)
  have R2 := hide ((R1.out.below hb2).below A2.out)
  have W2 := hide (hW2.below A2.out)
  have F2 := hide (ownsRow_below hF2 A2.out)
  have G2 := hide (hG2.below A2.out)
  have D2 : Hid (RdF (w2.alloc (.cells #[.slice xa W.length xc, .slice ya F.length yc, .slice za n zc] 28)) xa W ya F za D P n) := hide ⟨(hW2.below A2.out).rd, reads_owned (ownsRow_below hF2 A2.out) rfl, (hG2.rd).below A2.out⟩
  have hyl : ∀ b, (Value.slice ya F.length yc).ownBlock = some b → b < w2.heap.size := fun b hb => (hF2.lt b hb).2
  have hxl : ∀ b, (Value.slice xa W.length xc).ownBlock = some b → b < w2.heap.size := fun b hb => (World.ownsRow.lt hW2 b hb).2
  have hsz3 : (w2.alloc (.cells #[.slice xa W.length xc, .slice ya F.length yc, .slice za n zc] 28)).heap.size = w2.heap.size + 1 := by simp
  have HYX := hide (And.intro hyl (And.intro hxl (And.intro hxT hsz3)))
  clear hb2 hW2 hF2 hG2 R1 HCP HIS X1 hyl hxl hxT hyT hsz3
  have HAS := hide (l10Ask_wanted w2.heap.size i xa xc W ya yc F za zc n D P d _ N2.out D2.out hn hWl hFl HF1.out.1 HF1.out.2.2.2 hi HF1.out.2.1 HF1.out.2.2.1)
  go_wp2_with fail
  generalize w2.alloc (.cells #[.slice xa W.length xc, .slice ya F.length yc, .slice za n zc] 28) = w3 at *
  refine HAS.out.mono ?_
  rintro e w3 ⟨rfl, rfl⟩
  obtain ⟨⟨s0, s1, s2⟩, -, -, -⟩ := N2.out
  obtain ⟨⟨m0, m1, m2, m3⟩, k0, k1, k2, k3⟩ := R2.out
  go_wp2_with fail
  exact bodyPost_ret (v := .agg #[.int .i64 0, .slice xa W.length xc, .slice ya F.length yc, .slice za n zc]) (by simp [results, Tryz.results24, go_sem, m0, m1, m2, m3]) rfl (ResF.box (B := w1.heap.size) W2.out F2.out ((G2.out.mono hT2).wide (by have := HYX.out.2.2.2; omega)) B2.out (by omega) (by omega))
set_option maxRecDepth 100000 in
set_option maxHeartbeats 6400000 in
theorem specAskFetch_many (wa : Option Addr) (wk : Nat) (W : List Wn) (fa : Option Addr) (fc : Nat) (F : List Int) (ca : Option Addr) (cc n : Nat) (D : Nat → Int) (P : Nat → List Int) (d : Int) (w : World) (h : RdF w wa W fa F ca D P n) (hn : n ≤ 1048576) (hP : SmallP P n) (hWl : W.length ≤ 1048576) (hFl : F.length ≤ 1048576) (hfc : F.length ≤ fc) (hz : fetFault W F D P n = 0) (hPl : ∀ i, i < n → 0 < (P i).length ∧ (P i).length ≤ 1048576) (hd : okD d) (hf : d ∉ F) (hnk : ∀ j, j < n → D j ≠ d) (hfi : ∀ j, j < W.length → (W.getD j (0, 0)).1 ≠ d) (h12 : 12 ≤ W.length) :
    Calls Tryz.prog 24 #[fetV wa W.length wk fa F.length fc ca n cc, .int .i64 d] w (ResF 2 [] [] D P 0 w) := by
  have B0 := hide (below_next (below_alloc w (.cells #[.slice wa W.length wk, .slice fa F.length fc, .slice ca n cc] 28)) (below_alloc _ (.cells #[.int .i64 0, .slice none 0 0, .slice none 0 0, .slice none 0 0] 32)))
  have X0 := hide ((Bx3.new w (.slice wa W.length wk) (.slice fa F.length fc) (.slice ca n cc) 28).below (below_alloc _ (.cells #[.int .i64 0, .slice none 0 0, .slice none 0 0, .slice none 0 0] 32)))
  have R0 := hide (Bx4.new (w.alloc (.cells #[.slice wa W.length wk, .slice fa F.length fc, .slice ca n cc] 28)) (.int .i64 0) (.slice none 0 0) (.slice none 0 0) (.slice none 0 0) 32)
  have hs : (w.alloc (.cells #[.slice wa W.length wk, .slice fa F.length fc, .slice ca n cc] 28)).heap.size = w.heap.size + 1 := by simp
  rw [hs] at R0
  clear hs
  have HFF := hide (l10Fault_any w.heap.size wa wk W fa fc F ca cc n D P _ X0.out (h.below B0.out) hn hP hWl hFl hfc)
  rw [hz] at HFF
  have HIS := hide (fun (u : World) => dgS_any d u)
  rw [decide_eq_true hd] at HIS
  have HCP := hide (fun (u : World) (hb : Below w.heap.size w u) => l10Copy_any wa wk W fa fc F ca cc n D P u (h.below hb) hn hPl hWl hFl)
  have HF1 := hide (And.intro hf (And.intro hfi hnk))
  clear h hP hz hd hf hfi hnk
  unfold fetV at HCP ⊢
  go_enter Tryz.func24, Tryz.ntmps24
  go_wp2_with fail
  generalize (w.alloc (.cells #[.slice wa W.length wk, .slice fa F.length fc, .slice ca n cc] 28)).alloc (.cells #[.int .i64 0, .slice none 0 0, .slice none 0 0, .slice none 0 0] 32) = W0 at *
  refine HFF.out.mono ?_
  rintro e w1 ⟨rfl, hb1⟩
  have B1 := hide (below_next B0.out hb1)
  have X1 := hide (X0.out.below hb1)
  have R1 := hide (R0.out.below hb1)
  clear hb1 X0 R0 B0 HFF
  go_wp2_with fail
  refine (HIS.out w1).mono ?_
  rintro e w1 ⟨rfl, rfl⟩
  obtain ⟨⟨t0, t1, t2⟩, -, -, -⟩ := X1.out
  go_wp2_with fail
  clear t0 t1 t2
  refine (HCP.out w1 B1.out).mono ?_
  rintro e w2 ⟨xa, xc, ya, yc, za, zc, T, rfl, hW2, hF2, hG2, hT2, hxT, hyT, hb2⟩
  have hzw := B1.out.size
  have hz2 := hb2.size
  have hr1 := R1.out.lt
  have B2 := hide (below_next (below_next B1.out hb2) (below_alloc w2 (.cells #[.slice xa W.length xc, .slice ya F.length yc, .slice za n zc] 28)))
  have A2 := hide (below_alloc w2 (.cells #[.slice xa W.length xc, .slice ya F.length yc, .slice za n zc] 28))
  have N2 := hide (Bx3.new w2 (.slice xa W.length xc) (.slice ya F.length yc) (.slice za n zc) 28)
  have R2 := hide ((R1.out.below hb2).below A2.out)
  have W2 := hide (hW2.below A2.out)
  have F2 := hide (ownsRow_below hF2 A2.out)
  have G2 := hide (hG2.below A2.out)
  have D2 : Hid (RdF (w2.alloc (.cells #[.slice xa W.length xc, .slice ya F.length yc, .slice za n zc] 28)) xa W ya F za D P n) := hide ⟨(hW2.below A2.out).rd, reads_owned (ownsRow_below hF2 A2.out) rfl, (hG2.rd).below A2.out⟩
  have hyl : ∀ b, (Value.slice ya F.length yc).ownBlock = some b → b < w2.heap.size := fun b hb => (hF2.lt b hb).2
  have hxl : ∀ b, (Value.slice xa W.length xc).ownBlock = some b → b < w2.heap.size := fun b hb => (World.ownsRow.lt hW2 b hb).2
  have hsz3 : (w2.alloc (.cells #[.slice xa W.length xc, .slice ya F.length yc, .slice za n zc] 28)).heap.size = w2.heap.size + 1 := by simp
  have HYX := hide (And.intro hyl (And.intro hxl (And.intro hxT hsz3)))
  clear hb2 hW2 hF2 hG2 R1 HCP HIS X1 hyl hxl hxT hyT hsz3
  have HAS := hide (l10Ask_many w2.heap.size xa xc W ya yc F za zc n D P d _ N2.out D2.out hn hWl hFl HF1.out.1 HF1.out.2.2 HF1.out.2.1 h12)
  go_wp2_with fail
  generalize w2.alloc (.cells #[.slice xa W.length xc, .slice ya F.length yc, .slice za n zc] 28) = w3 at *
  refine HAS.out.mono ?_
  rintro e w3 ⟨rfl, rfl⟩
  go_wp2_with fail
  refine (l10Bad_any 2 w3).mono ?_
  rintro e w9 ⟨rfl, hb9⟩
  have B9 := hide (below_next B2.out hb9)
  obtain ⟨⟨m0, m1, m2, m3⟩, k0, k1, k2, k3⟩ := R2.out.below hb9
  clear hb9
  go_wp2_with fail
  have hk := Kept.fourF w9 (w.heap.size + 1) (.int .i64 2) (.slice none 0 0) (.slice none 0 0) (.slice none 0 0)
  exact bodyPost_ret (v := .agg #[.int .i64 2, .slice none 0 0, .slice none 0 0, .slice none 0 0]) (by simp [results, Tryz.results24, go_sem, m0, m1, m2, m3]) rfl (ResF.bad (B9.out.trans (hk.below (B := w.heap.size) B9.out.size (fun k hk e => by omega))))
set_option maxRecDepth 100000 in
set_option maxHeartbeats 6400000 in
theorem specAskFetch_new (wa : Option Addr) (wk : Nat) (W : List Wn) (fa : Option Addr) (fc : Nat) (F : List Int) (ca : Option Addr) (cc n : Nat) (D : Nat → Int) (P : Nat → List Int) (d : Int) (w : World) (h : RdF w wa W fa F ca D P n) (hn : n ≤ 1048576) (hP : SmallP P n) (hWl : W.length ≤ 1048576) (hFl : F.length ≤ 1048576) (hfc : F.length ≤ fc) (hz : fetFault W F D P n = 0) (hPl : ∀ i, i < n → 0 < (P i).length ∧ (P i).length ≤ 1048576) (hd : okD d) (hf : d ∉ F) (hnk : ∀ j, j < n → D j ≠ d) (hfi : ∀ j, j < W.length → (W.getD j (0, 0)).1 ≠ d) (h12 : ¬ 12 ≤ W.length) :
    Calls Tryz.prog 24 #[fetV wa W.length wk fa F.length fc ca n cc, .int .i64 d] w (ResF 0 (W ++ [(d, 0)]) F D P n w) := by
  have B0 := hide (below_next (below_alloc w (.cells #[.slice wa W.length wk, .slice fa F.length fc, .slice ca n cc] 28)) (below_alloc _ (.cells #[.int .i64 0, .slice none 0 0, .slice none 0 0, .slice none 0 0] 32)))
  have X0 := hide ((Bx3.new w (.slice wa W.length wk) (.slice fa F.length fc) (.slice ca n cc) 28).below (below_alloc _ (.cells #[.int .i64 0, .slice none 0 0, .slice none 0 0, .slice none 0 0] 32)))
  have R0 := hide (Bx4.new (w.alloc (.cells #[.slice wa W.length wk, .slice fa F.length fc, .slice ca n cc] 28)) (.int .i64 0) (.slice none 0 0) (.slice none 0 0) (.slice none 0 0) 32)
  have hs : (w.alloc (.cells #[.slice wa W.length wk, .slice fa F.length fc, .slice ca n cc] 28)).heap.size = w.heap.size + 1 := by simp
  rw [hs] at R0
  clear hs
  have HFF := hide (l10Fault_any w.heap.size wa wk W fa fc F ca cc n D P _ X0.out (h.below B0.out) hn hP hWl hFl hfc)
  rw [hz] at HFF
  have HIS := hide (fun (u : World) => dgS_any d u)
  rw [decide_eq_true hd] at HIS
  have HCP := hide (fun (u : World) (hb : Below w.heap.size w u) => l10Copy_any wa wk W fa fc F ca cc n D P u (h.below hb) hn hPl hWl hFl)
  have HF1 := hide (And.intro hf (And.intro hfi hnk))
  clear h hP hz hd hf hfi hnk
  unfold fetV at HCP ⊢
  go_enter Tryz.func24, Tryz.ntmps24
  go_wp2_with fail
  generalize (w.alloc (.cells #[.slice wa W.length wk, .slice fa F.length fc, .slice ca n cc] 28)).alloc (.cells #[.int .i64 0, .slice none 0 0, .slice none 0 0, .slice none 0 0] 32) = W0 at *
  refine HFF.out.mono ?_
  rintro e w1 ⟨rfl, hb1⟩
  have B1 := hide (below_next B0.out hb1)
  have X1 := hide (X0.out.below hb1)
  have R1 := hide (R0.out.below hb1)
  clear hb1 X0 R0 B0 HFF
  go_wp2_with fail
  refine (HIS.out w1).mono ?_
  rintro e w1 ⟨rfl, rfl⟩
  obtain ⟨⟨t0, t1, t2⟩, -, -, -⟩ := X1.out
  go_wp2_with fail
  clear t0 t1 t2
  refine (HCP.out w1 B1.out).mono ?_
  rintro e w2 ⟨xa, xc, ya, yc, za, zc, T, rfl, hW2, hF2, hG2, hT2, hxT, hyT, hb2⟩
  have hzw := B1.out.size
  have hz2 := hb2.size
  have hr1 := R1.out.lt
  have B2 := hide (below_next (below_next B1.out hb2) (below_alloc w2 (.cells #[.slice xa W.length xc, .slice ya F.length yc, .slice za n zc] 28)))
  have A2 := hide (below_alloc w2 (.cells #[.slice xa W.length xc, .slice ya F.length yc, .slice za n zc] 28))
  have N2 := hide (Bx3.new w2 (.slice xa W.length xc) (.slice ya F.length yc) (.slice za n zc) 28)
  have R2 := hide ((R1.out.below hb2).below A2.out)
  have W2 := hide (hW2.below A2.out)
  have F2 := hide (ownsRow_below hF2 A2.out)
  have G2 := hide (hG2.below A2.out)
  have D2 : Hid (RdF (w2.alloc (.cells #[.slice xa W.length xc, .slice ya F.length yc, .slice za n zc] 28)) xa W ya F za D P n) := hide ⟨(hW2.below A2.out).rd, reads_owned (ownsRow_below hF2 A2.out) rfl, (hG2.rd).below A2.out⟩
  have hyl : ∀ b, (Value.slice ya F.length yc).ownBlock = some b → b < w2.heap.size := fun b hb => (hF2.lt b hb).2
  have hxl : ∀ b, (Value.slice xa W.length xc).ownBlock = some b → b < w2.heap.size := fun b hb => (World.ownsRow.lt hW2 b hb).2
  have hsz3 : (w2.alloc (.cells #[.slice xa W.length xc, .slice ya F.length yc, .slice za n zc] 28)).heap.size = w2.heap.size + 1 := by simp
  have HYX := hide (And.intro hyl (And.intro hxl (And.intro hxT hsz3)))
  clear hb2 hW2 hF2 hG2 R1 HCP HIS X1 hyl hxl hxT hyT hsz3
  have HAS := hide (l10Ask_new w1.heap.size w2.heap.size xa xc W ya yc F za zc n D P d _ N2.out D2.out W2.out (by have := HYX.out.2.2.2; omega) (fun e => by have := HYX.out.2.1 _ e; omega) hn hWl hFl HF1.out.1 HF1.out.2.2 HF1.out.2.1 (by omega))
  go_wp2_with fail
  generalize w2.alloc (.cells #[.slice xa W.length xc, .slice ya F.length yc, .slice za n zc] 28) = w3 at *
  refine HAS.out.mono ?_
  rintro e w4 ⟨rfl, ua, uc, hX4, hW4, hK4⟩
  have hz4 := hK4.size
  have F4 := hide (ownsRow_kept F2.out hK4 (fun b hb e => by rcases e with e | e; (have := HYX.out.1 b hb; omega); exact rows_apart W2.out F2.out (by decide) e hb))
  have G4 := hide (G2.out.kept hK4 (fun b h1 h2 e => by rcases e with e | e; omega; (have := HYX.out.2.2.1 b e; omega)))
  have B4 := hide (B2.out.trans (hK4.below (B := w.heap.size) B2.out.size (fun k hk e => by rcases e with e | e; omega; (have := (World.ownsRow.lt W2.out k e).1; omega))))
  have R4 := hide (R2.out.kept hK4 (fun e => by rcases e with e | e; omega; (have := (World.ownsRow.lt W2.out _ e).1; omega)))
  have W4 := hide hW4
  obtain ⟨⟨s0, s1, s2⟩, -, -, -⟩ := hX4
  obtain ⟨⟨m0, m1, m2, m3⟩, k0, k1, k2, k3⟩ := R4.out
  clear hW4 hK4
  go_wp2_with fail
  exact bodyPost_ret (v := .agg #[.int .i64 0, .slice ua (W ++ [(d, (0 : Int))]).length uc, .slice ya F.length yc, .slice za n zc]) (by simp [results, Tryz.results24, go_sem, m0, m1, m2, m3]) rfl (ResF.box (B := w1.heap.size) W4.out F4.out ((G4.out.mono hT2).wide (by have := HYX.out.2.2.2; omega)) B4.out (by omega) (by omega))
end Go.Proofs.YtfamiehfpmjljaaGreatDoor

namespace Go.Proofs.YtfamiehfpmjljaaGreatDoor
open Go.RowKit Go.Maps
set_option linter.unusedVariables false

structure NowF (B fb : Nat) (w : World) (W : List Wn) (F : List Int) (L : List Ch) (wa : Option Addr) (wk : Nat) (ps : List Nat) (fa : Option Addr) (fc bm N : Nat) : Prop where
  box : Bx3 w fb (.slice wa W.length wk) (.slice fa F.length fc) (.map (some bm))
  wants : OwnP (fb + 1) w (.slice wa W.length wk) ps W
  failed : w.ownsRow B 2 1 (.slice fa F.length fc) F.length (F.map (Value.int .i64))
  ahead : ∀ b, (Value.slice fa F.length fc).ownBlock = some b → b < fb
  held : Holds w bm N L B
  low : B ≤ bm
  high : bm < fb
  room : N ≤ 1048576
theorem NowF.below {B fb : Nat} {w w' : World} {W : List Wn} {F : List Int} {L : List Ch} {wa : Option Addr} {wk : Nat} {ps : List Nat} {fa : Option Addr} {fc bm N : Nat} (h : NowF B fb w W F L wa wk ps fa fc bm N) (hb : Below w.heap.size w w') : NowF B fb w' W F L wa wk ps fa fc bm N :=
  ⟨h.box.below hb, h.wants.below hb, ownsRow_below h.failed hb, h.ahead, h.held.below hb, h.low, h.high, h.room⟩
set_option maxRecDepth 100000 in
set_option maxHeartbeats 1600000 in
theorem ask_failed (B fb : Nat) (W : List Wn) (F : List Int) (L : List Ch) (wa : Option Addr) (wk : Nat) (ps : List Nat) (fa : Option Addr) (fc bm N : Nat) (d : Int) (w : World) (h : NowF B fb w W F L wa wk ps fa fc bm N) (hFl : F.length ≤ 1048576) (hd : d ∈ F) :
    Calls Tryz.prog 60 #[.pointer (some ⟨fb, 0, none⟩), .int .i64 d] w fun e w' => e = .returned (.iface 131 (.agg #[.int .i64 d])) ∧ w' = w := by
  have HCn := hide (slContains_any fa fc F d w (ownsRow_own h.failed rfl).reads hFl)
  rw [show F.contains d = true by simpa using hd] at HCn
  obtain ⟨⟨x0, x1, x2⟩, x3, x4, x5⟩ := h.box
  clear h hd
  go_enter Tryz.func60, Tryz.ntmps60
  go_wp2_with fail
  refine HCn.out.mono ?_
  rintro e w ⟨rfl, rfl⟩
  go_wp2_with fail
  go_ret
  exact ⟨rfl, rfl⟩
set_option maxRecDepth 100000 in
set_option maxHeartbeats 1600000 in
theorem ask_known (B fb : Nat) (W : List Wn) (F : List Int) (L : List Ch) (wa : Option Addr) (wk : Nat) (ps : List Nat) (fa : Option Addr) (fc bm N : Nat) (d : Int) (w : World) (h : NowF B fb w W F L wa wk ps fa fc bm N) (hWl : W.length ≤ 1048576) (hFl : F.length ≤ 1048576) (hok : okD d) (hd : d ∉ F) (hk : d ∈ L.map Prod.fst ∨ d ∈ W.map Prod.fst) :
    Calls Tryz.prog 60 #[.pointer (some ⟨fb, 0, none⟩), .int .i64 d] w fun e w' => e = .returned .nilIface ∧ Below w.heap.size w w' := by
  have HCn := hide (slContains_any fa fc F d w (ownsRow_own h.failed rfl).reads hFl)
  rw [show F.contains d = false by simpa using hd] at HCn
  have HKn := hide (knows_any fb wa wk ps W fa fc F bm N B L d w h.box.1.1 h.box.1.2.1 h.box.1.2.2 h.wants.rd (ownsRow_own h.failed rfl).reads h.held hWl hFl (okD_wf hok))
  rw [decide_eq_true (show d ∈ L.map Prod.fst ∨ d ∈ F ∨ d ∈ W.map Prod.fst from hk.elim Or.inl (fun h => Or.inr (Or.inr h)))] at HKn
  obtain ⟨⟨x0, x1, x2⟩, x3, x4, x5⟩ := h.box
  clear h hd hk hok
  go_enter Tryz.func60, Tryz.ntmps60
  go_wp2_with fail
  refine HCn.out.mono ?_
  rintro e w ⟨rfl, rfl⟩
  go_wp2_with fail
  refine HKn.out.mono ?_
  rintro e w1 ⟨rfl, hb1⟩
  have B1 := hide hb1
  clear hb1
  go_wp2_with fail
  go_ret
  exact ⟨rfl, B1.out⟩
set_option maxRecDepth 100000 in
set_option maxHeartbeats 1600000 in
theorem ask_full (B fb : Nat) (W : List Wn) (F : List Int) (L : List Ch) (wa : Option Addr) (wk : Nat) (ps : List Nat) (fa : Option Addr) (fc bm N : Nat) (d : Int) (a0 a1 : Addr) (w : World) (hg : Ge w a0 a1) (h : NowF B fb w W F L wa wk ps fa fc bm N) (hWl : W.length ≤ 1048576) (hFl : F.length ≤ 1048576) (hok : okD d) (hd : d ∉ F) (hk : ¬ (d ∈ L.map Prod.fst ∨ d ∈ W.map Prod.fst)) (hfull : 12 ≤ W.length) :
    Calls Tryz.prog 60 #[.pointer (some ⟨fb, 0, none⟩), .int .i64 d] w fun e w' => e = .returned (.iface 262 (.pointer (some a1))) ∧ Below w.heap.size w w' := by
  have HCn := hide (slContains_any fa fc F d w (ownsRow_own h.failed rfl).reads hFl)
  rw [show F.contains d = false by simpa using hd] at HCn
  have HKn := hide (knows_any fb wa wk ps W fa fc F bm N B L d w h.box.1.1 h.box.1.2.1 h.box.1.2.2 h.wants.rd (ownsRow_own h.failed rfl).reads h.held hWl hFl (okD_wf hok))
  rw [decide_eq_false (show ¬ (d ∈ L.map Prod.fst ∨ d ∈ F ∨ d ∈ W.map Prod.fst) from fun h => h.elim (fun h => hk (Or.inl h)) (fun h => h.elim hd (fun h => hk (Or.inr h))))] at HKn
  have HG := hide hg
  have HB := hide h.box
  obtain ⟨⟨x0, x1, x2⟩, x3, x4, x5⟩ := h.box
  have h12 : (12 : Int) ≤ (W.length : Int) := by omega
  clear h hd hk hok hg
  go_enter Tryz.func60, Tryz.ntmps60
  go_wp2_with fail
  refine HCn.out.mono ?_
  rintro e w ⟨rfl, rfl⟩
  go_wp2_with fail
  clear x0 x1 x2 x3 x4 x5
  refine HKn.out.mono ?_
  rintro e w1 ⟨rfl, hb1⟩
  have B1 := hide hb1
  have g1 := (HG.out.below hb1).e1
  obtain ⟨⟨x0, x1, x2⟩, x3, x4, x5⟩ := HB.out.below hb1
  clear hb1
  go_wp2_with fail
  go_ret
  exact ⟨rfl, B1.out⟩
set_option maxRecDepth 100000 in
set_option maxHeartbeats 3200000 in
theorem ask_new (B fb : Nat) (W : List Wn) (F : List Int) (L : List Ch) (wa : Option Addr) (wk : Nat) (ps : List Nat) (fa : Option Addr) (fc bm N : Nat) (d : Int) (w : World) (h : NowF B fb w W F L wa wk ps fa fc bm N) (hB : B ≤ fb) (hFl : F.length ≤ 1048576) (hok : okD d) (hd : d ∉ F) (hk : ¬ (d ∈ L.map Prod.fst ∨ d ∈ W.map Prod.fst)) (hfull : ¬ 12 ≤ W.length) :
    Calls Tryz.prog 60 #[.pointer (some ⟨fb, 0, none⟩), .int .i64 d] w fun e w' => e = .returned .nilIface ∧ (∃ wa' wk' p, NowF B fb w' (W ++ [(d, 0)]) F L wa' wk' (ps ++ [p]) fa fc bm N) ∧ Below fb w w' := by
  obtain ⟨i1, ki, kz0, kz1, kz2⟩ := info_parts Tryz.infoPW
  have HCn := hide (slContains_any fa fc F d w (ownsRow_own h.failed rfl).reads hFl)
  rw [show F.contains d = false by simpa using hd] at HCn
  have HKn := hide (knows_any fb wa wk ps W fa fc F bm N B L d w h.box.1.1 h.box.1.2.1 h.box.1.2.2 h.wants.rd (ownsRow_own h.failed rfl).reads h.held (by omega) hFl (okD_wf hok))
  rw [decide_eq_false (show ¬ (d ∈ L.map Prod.fst ∨ d ∈ F ∨ d ∈ W.map Prod.fst) from fun h => h.elim (fun h => hk (Or.inl h)) (fun h => h.elim hd (fun h => hk (Or.inr h))))] at HKn
  have HN := hide h
  obtain ⟨⟨x0, x1, x2⟩, x3, x4, x5⟩ := h.box
  have h12 : ¬ (12 : Int) ≤ (W.length : Int) := by omega
  have hm1 : W.length + 1 ≤ maxLen := by unfold maxLen; omega
  have hm2 : (W.length + 1) * 8 ≤ 140737488355328 := by omega
  clear h hd hk hok
  go_enter Tryz.func60, Tryz.ntmps60
  go_wp2_with fail
  refine HCn.out.mono ?_
  rintro e w ⟨rfl, rfl⟩
  go_wp2_with fail
  clear x0 x1 x2 x3 x4 x5
  refine HKn.out.mono ?_
  rintro e w1 ⟨rfl, hb1⟩
  have B1 := hide hb1
  have N1 := hide (HN.out.below hb1)
  have hfl := HN.out.box.lt
  have hz1 := hb1.size
  clear hb1 HKn HCn HN
  have A1 := hide (below_alloc w1 (.cells #[.int .i64 d, .int .i64 0] 120))
  have P1 := hide (Box.new w1 (.int .i64 d) (.int .i64 0) 120)
  have N2 := hide (N1.out.below A1.out)
  have R2 := hide N2.out.wants.row
  obtain ⟨⟨x0, x1, x2⟩, x3, x4, x5⟩ := N1.out.box
  obtain ⟨⟨z0, z1, z2⟩, z3, z4, z5⟩ := N2.out.box
  have hsz : fb + 1 ≤ (w1.alloc (.cells #[.int .i64 d, .int .i64 0] 120)).heap.size := by simp; omega
  go_wp2_with (at_builtin; refine wpList_append_at rfl (.tmp 28) (.tmp 32) 95 rfl (fb + 1) 123 i1 (.pointer none) 1 8 Tryz.underlying95 ki kz0 kz1 kz2 rfl (by decide) _ _ _ rfl R2.out (w1.heap.size + 1) (by simp) rfl rfl (by intro u hu; simp at hu; subst hu; rfl) hm1 hm2 hsz ?_; intro v' w3 hrow3 hk3; obtain ⟨a', c', rfl⟩ := ownsRow_shape hrow3; have O3 := hide hrow3; have K3 := hide hk3; have X3 := hide (N2.out.box.kept hk3 (fun e => by have := (R2.out.lt _ e).1; omega)); clear hrow3 hk3; obtain ⟨⟨y0, y1, y2⟩, y3, y4, y5⟩ := X3.out)
  go_ret
  have hown : ∀ b, (Value.slice wa W.length wk).ownBlock = some b → fb + 1 ≤ b ∧ b < w1.heap.size := fun b hb => N1.out.wants.row.lt b hb
  have OP3 := N2.out.wants.push (p := w1.heap.size) P1.out (by omega) (fun i hi e => by
    have h1 := (N1.out.wants.box i hi).2.1.lt
    omega) O3.out K3.out (fun b hb e => by have := hown b hb; omega)
  have hk4 := Kept.one w3 fb 0 (.slice a' (W.length + 1) c')
  refine ⟨rfl, ⟨a', c', w1.heap.size, ?_, ?_, ?_, N1.out.ahead, ?_, N1.out.low, N1.out.high, N1.out.room⟩, ?_⟩
  · have := X3.out.set0 (.slice a' (W.length + 1) c')
    simpa using this
  · have := OP3.kept hk4 (fun b hb e => by omega)
    simpa using this
  · refine ownsRow_kept (ownsRow_kept N2.out.failed K3.out (fun b hb e => ?_)) hk4 (fun b hb e => ?_)
    · have h1 := N1.out.ahead b hb
      have h2 := hown b e
      omega
    · have h1 := N1.out.ahead b hb
      omega
  · refine (N2.out.held.kept K3.out (fun e => ?_) (fun x hx => ?_)).kept hk4 (fun e => ?_) (fun x hx => ?_)
    · have h1 := hown _ e
      have h2 := N1.out.high
      omega
    · have h1 := hown _ hx
      omega
    · have h2 := N1.out.high
      omega
    · omega
  · have hb2 : Below fb w (w1.alloc (.cells #[.int .i64 d, .int .i64 0] 120)) := (below_next B1.out A1.out).mono (by omega)
    exact (hb2.trans (K3.out.below (B := fb) (by simp; omega) (fun j hj e => by have := hown _ e; omega))).setCell (Nat.le_refl _) _
end Go.Proofs.YtfamiehfpmjljaaGreatDoor

namespace Go.Proofs.YtfamiehfpmjljaaGreatDoor
open Go.RowKit Go.Maps
set_option linter.unusedVariables false

theorem below_drewN {B : Nat} {w w' : World} (h : Below B w w') : ∀ n, Below B w (w'.drewN n)
  | 0 => h
  | n + 1 => (below_drewN h n).drew
end Go.Proofs.YtfamiehfpmjljaaGreatDoor

