/-
  Texts put together: FetV FetY FetAa ChunksIn FetZ FetD.
-/
import Derived.Test.YtejfcapocikjmaaGreatDoorKAsksCa12
import Derived.Test.YtejfcapocikjmaaGreatDoorKAsksCa6
import Derived.Test.YtejfcapocikjmaaGreatDoorKAsksCa1
import Derived.Deep.SlicePairs
import Derived.ProofKit
import Derived.ChangeOld
import Derived.Test.YtejfcapocikjmaaGreatDoorKAsksCa3
import Derived.Test.YtejfcapocikjmaaGreatDoorKAsksCa2
import Derived.Test.YtejfcapocikjmaaGreatDoorKAsksCa5
namespace Go.Proofs.YtejfcapocikjmaaGreatDoor
open Go.RowKit Go.Maps
set_option linter.unusedVariables false
set_option maxRecDepth 100000 in
set_option maxHeartbeats 3200000 in
theorem l10Ask_failed (fb : Nat) (wa : Option Addr) (wc : Nat) (W : List Wn) (fa : Option Addr) (fc : Nat) (F : List Int) (ca : Option Addr) (cc n : Nat) (D : Nat → Int) (P : Nat → List Int) (d : Int) (w : World) (hX : Bx3 w fb (.slice wa W.length wc) (.slice fa F.length fc) (.slice ca n cc)) (h : RdF w wa W fa F ca D P n) (hFl : F.length ≤ 1048576) (hf : d ∈ F) :
    Calls Tryz.prog 24 #[.pointer (some ⟨fb, 0, none⟩), .int .i64 d] w fun e w' => e = .returned (.int .i64 8) ∧ w' = w := by
  have HAm := hide (l2Among_any fa fc F d w h.failed hFl)
  rw [List.contains_iff_mem.2 hf] at HAm
  clear h hf
  go_enter Tryz.func24, Tryz.ntmps24
  obtain ⟨⟨t0, t1, t2⟩, -, -, -⟩ := hX
  go_wp2_with (go_at_call 23; refine HAm.out.mono ?_; rintro e w1 ⟨rfl, rfl⟩)
  go_ret
  exact ⟨rfl, rfl⟩
set_option maxRecDepth 100000 in
set_option maxHeartbeats 3200000 in
theorem l10Ask_held (fb i : Nat) (wa : Option Addr) (wc : Nat) (W : List Wn) (fa : Option Addr) (fc : Nat) (F : List Int) (ca : Option Addr) (cc n : Nat) (D : Nat → Int) (P : Nat → List Int) (d : Int) (w : World) (hX : Bx3 w fb (.slice wa W.length wc) (.slice fa F.length fc) (.slice ca n cc)) (h : RdF w wa W fa F ca D P n) (hn : n ≤ 1048576) (hFl : F.length ≤ 1048576) (hf : d ∉ F) (hi : i < n) (hd : D i = d) (hfi : ∀ j, j < i → D j ≠ d) :
    Calls Tryz.prog 24 #[.pointer (some ⟨fb, 0, none⟩), .int .i64 d] w fun e w' => e = .returned (.int .i64 0) ∧ w' = w := by
  have HAm := hide (l2Among_any fa fc F d w h.failed hFl)
  rw [show F.contains d = false from by simpa using hf] at HAm
  have HAt := hide (l2At_yes ca cc n i d D P w h.chunks hn hi hd hfi)
  have hi0 : (0 : Int) ≤ (i : Int) := by omega
  clear h hf hfi
  go_enter Tryz.func24, Tryz.ntmps24
  obtain ⟨⟨t0, t1, t2⟩, -, -, -⟩ := hX
  go_wp2_with (first | (go_at_call 23; refine HAm.out.mono ?_; rintro e w1 ⟨rfl, rfl⟩) | (go_at_call 47; refine HAt.out.mono ?_; rintro e w1 ⟨rfl, rfl⟩))
  go_ret
  exact ⟨rfl, rfl⟩
set_option maxRecDepth 100000 in
set_option maxHeartbeats 3200000 in
theorem l10Ask_wanted (fb i : Nat) (wa : Option Addr) (wc : Nat) (W : List Wn) (fa : Option Addr) (fc : Nat) (F : List Int) (ca : Option Addr) (cc n : Nat) (D : Nat → Int) (P : Nat → List Int) (d : Int) (w : World) (hX : Bx3 w fb (.slice wa W.length wc) (.slice fa F.length fc) (.slice ca n cc)) (h : RdF w wa W fa F ca D P n) (hn : n ≤ 1048576) (hWl : W.length ≤ 1048576) (hFl : F.length ≤ 1048576) (hf : d ∉ F) (hnk : ∀ j, j < n → D j ≠ d) (hi : i < W.length) (hd : (W.getD i (0, 0)).1 = d) (hfi : ∀ j, j < i → (W.getD j (0, 0)).1 ≠ d) :
    Calls Tryz.prog 24 #[.pointer (some ⟨fb, 0, none⟩), .int .i64 d] w fun e w' => e = .returned (.int .i64 0) ∧ w' = w := by
  have HAm := hide (l2Among_any fa fc F d w h.failed hFl)
  rw [show F.contains d = false from by simpa using hf] at HAm
  have HAt := hide (l2At_no ca cc n d D P w h.chunks hn hnk)
  have HWt := hide (l10At_yes fb wa wc i W d w hX.1.1 h.wants hWl hi hd hfi)
  have hi0 : (0 : Int) ≤ (i : Int) := by omega
  clear h hf hfi hnk hd
  go_enter Tryz.func24, Tryz.ntmps24
  obtain ⟨⟨t0, t1, t2⟩, -, -, -⟩ := hX
  go_wp2_with (first | (go_at_call 23; refine HAm.out.mono ?_; rintro e w1 ⟨rfl, rfl⟩) | (go_at_call 47; refine HAt.out.mono ?_; rintro e w1 ⟨rfl, rfl⟩) | (go_at_call 51; refine HWt.out.mono ?_; rintro e w1 ⟨rfl, rfl⟩))
  go_ret
  exact ⟨rfl, rfl⟩
set_option maxRecDepth 100000 in
set_option maxHeartbeats 3200000 in
theorem l10Ask_many (fb : Nat) (wa : Option Addr) (wc : Nat) (W : List Wn) (fa : Option Addr) (fc : Nat) (F : List Int) (ca : Option Addr) (cc n : Nat) (D : Nat → Int) (P : Nat → List Int) (d : Int) (w : World) (hX : Bx3 w fb (.slice wa W.length wc) (.slice fa F.length fc) (.slice ca n cc)) (h : RdF w wa W fa F ca D P n) (hn : n ≤ 1048576) (hWl : W.length ≤ 1048576) (hFl : F.length ≤ 1048576) (hf : d ∉ F) (hnk : ∀ j, j < n → D j ≠ d) (hfi : ∀ j, j < W.length → (W.getD j (0, 0)).1 ≠ d) (h12 : 12 ≤ W.length) :
    Calls Tryz.prog 24 #[.pointer (some ⟨fb, 0, none⟩), .int .i64 d] w fun e w' => e = .returned (.int .i64 2) ∧ w' = w := by
  have HAm := hide (l2Among_any fa fc F d w h.failed hFl)
  rw [show F.contains d = false from by simpa using hf] at HAm
  have HAt := hide (l2At_no ca cc n d D P w h.chunks hn hnk)
  have HWt := hide (l10At_no fb wa wc W d w hX.1.1 h.wants hWl hfi)
  have hi0 : (12 : Int) ≤ (W.length : Int) := by omega
  clear h hf hfi hnk
  go_enter Tryz.func24, Tryz.ntmps24
  obtain ⟨⟨t0, t1, t2⟩, -, -, -⟩ := hX
  go_wp2_with (first | (go_at_call 23; refine HAm.out.mono ?_; rintro e w1 ⟨rfl, rfl⟩) | (go_at_call 47; refine HAt.out.mono ?_; rintro e w1 ⟨rfl, rfl⟩) | (go_at_call 51; refine HWt.out.mono ?_; rintro e w1 ⟨rfl, rfl⟩))
  go_ret
  exact ⟨rfl, rfl⟩
theorem rowW_far {w : World} {B b : Nat} {v : Value} {W : List Wn} {a : Option Addr} {m c : Nat} (h : OwnW B w v W) (hz : 0 < W.length) (hb : w.cell? ⟨b, 0, none⟩ = some (.slice a m c)) : ∀ x, v.ownBlock = some x → x ≠ b := by
  rintro x hx rfl
  unfold OwnW at h
  rcases h.2 with ⟨h', hh⟩ | ⟨g, cap, cur, rfl, hg, hgg, _⟩
  · omega
  · simp only [Value.ownBlock, Option.some.injEq] at hx
    subst hx
    have hl := flat_length (n := W.length) (k := 2) (F := laidW W.length W) (fun i _ => laidW_length _ _ _)
    have h1 := World.ownsRow.cellAt h 0 (by omega)
    have h2 := flat_get (n := W.length) (k := 2) (F := laidW W.length W) (fun i _ => laidW_length _ _ _) 0 0 hz (by decide)
    rw [hb] at h1
    simp only [Nat.zero_mul, Nat.add_zero] at h2
    rw [h2] at h1
    simp [laidW, hz] at h1
set_option maxRecDepth 100000 in
set_option maxHeartbeats 3200000 in
theorem l10Ask_new (B fb : Nat) (wa : Option Addr) (wc : Nat) (W : List Wn) (fa : Option Addr) (fc : Nat) (F : List Int) (ca : Option Addr) (cc n : Nat) (D : Nat → Int) (P : Nat → List Int) (d : Int) (w : World) (hX : Bx3 w fb (.slice wa W.length wc) (.slice fa F.length fc) (.slice ca n cc)) (h : RdF w wa W fa F ca D P n) (hO : OwnW B w (.slice wa W.length wc) W) (hB : B ≤ w.heap.size) (hfar : (Value.slice wa W.length wc).ownBlock ≠ some fb) (hn : n ≤ 1048576) (hWl : W.length ≤ 1048576) (hFl : F.length ≤ 1048576) (hf : d ∉ F) (hnk : ∀ j, j < n → D j ≠ d) (hfi : ∀ j, j < W.length → (W.getD j (0, 0)).1 ≠ d) (h12 : ¬ 12 ≤ W.length) :
    Calls Tryz.prog 24 #[.pointer (some ⟨fb, 0, none⟩), .int .i64 d] w fun e w' => e = .returned (.int .i64 0) ∧ ∃ xa xc, Bx3 w' fb (.slice xa (W ++ [(d, 0)]).length xc) (.slice fa F.length fc) (.slice ca n cc) ∧ OwnW B w' (.slice xa (W ++ [(d, 0)]).length xc) (W ++ [(d, 0)]) ∧ Kept (fun b => b = fb ∨ (Value.slice wa W.length wc).ownBlock = some b) w w' := by
  obtain ⟨i1, ki, kz0, kz1, kz2⟩ := info_parts Tryz.infoWn
  have HAm := hide (l2Among_any fa fc F d w h.failed hFl)
  rw [show F.contains d = false from by simpa using hf] at HAm
  have HAt := hide (l2At_no ca cc n d D P w h.chunks hn hnk)
  have HWt := hide (l10At_no fb wa wc W d w hX.1.1 h.wants hWl hfi)
  have hi0 : ¬ (12 : Int) ≤ (W.length : Int) := by omega
  have HX := hide hX
  have HO := hide hO
  have HFR := hide hfar
  have hm1 : W.length + 1 ≤ maxLen := by unfold maxLen; omega
  have hm2 : (W.length + 1) * 16 ≤ 140737488355328 := by omega
  clear h hf hfi hnk hO hfar
  go_enter Tryz.func24, Tryz.ntmps24
  obtain ⟨⟨t0, t1, t2⟩, -, -, -⟩ := hX
  go_wp2_with (first | (go_at_call 23; refine HAm.out.mono ?_; rintro e w1 ⟨rfl, rfl⟩) | (go_at_call 47; refine HAt.out.mono ?_; rintro e w1 ⟨rfl, rfl⟩) | (go_at_call 51; refine HWt.out.mono ?_; rintro e w1 ⟨rfl, rfl⟩) | (at_builtin; refine wpList_append_one rfl (.tmp 34) (.tmp 37) 24 rfl B 78 i1 (.agg #[.int .i64 0, .int .i64 0]) 2 16 Tryz.underlying24 ki kz0 kz1 kz2 rfl (by decide) (.slice wa W.length wc) W.length (flat W.length (laidW W.length W)) rfl HO.out rfl rfl (by intro u hu; simp at hu; rcases hu with rfl | rfl <;> rfl) hm1 hm2 hB ?_; intro v' w2 hown2 hkept; obtain ⟨xa, xc, rfl⟩ := ownsRow_shape hown2; have O2 := hide (OwnW.push (d := d) (t := 0) hown2); have K2 := hide hkept; have X2 := hide (HX.out.kept hkept HFR.out); obtain ⟨⟨s0, s1, s2⟩, z0, z1, z2⟩ := X2.out; clear hown2 hkept t0 t1 t2))
  go_ret
  have hlen : (W ++ [(d, (0 : Int))]).length = W.length + 1 := by simp
  have hk3 := Kept.one w2 fb 0 (.slice xa (W.length + 1) xc)
  have hne := rowW_far O2.out (by omega) s0
  rw [hlen]
  refine ⟨rfl, xa, xc, X2.out.set0 _, ownsRow_kept O2.out hk3 (fun b hb e => hne b hb e), (K2.out.mono (fun b _ hb => .inr hb)).trans (hk3.mono (fun b _ hb => .inl hb))⟩
end Go.Proofs.YtejfcapocikjmaaGreatDoor

namespace Go.Proofs.YtejfcapocikjmaaGreatDoor
open Go.RowKit Go.Maps
set_option linter.unusedVariables false
set_option maxRecDepth 100000 in
set_option maxHeartbeats 6400000 in
theorem specAskFetch_away (wa : Option Addr) (wk : Nat) (W : List Wn) (fa : Option Addr) (fc : Nat) (F : List Int) (ca : Option Addr) (cc n : Nat) (D : Nat → Int) (P : Nat → List Int) (d : Int) (w : World) (h : RdF w wa W fa F ca D P n) (hn : n ≤ 1048576) (hP : SmallP P n) (hWl : W.length ≤ 1048576) (hFl : F.length ≤ 1048576) (hfc : F.length ≤ fc) (hz : fetFault W F D P n = 0) (hPl : ∀ i, i < n → 0 < (P i).length ∧ (P i).length ≤ 1048576) (hd : okD d) (hf : d ∈ F) :
    Calls Tryz.prog 58 #[fetV wa W.length wk fa F.length fc ca n cc, .int .i64 d] w (ResF 8 [] [] D P 0 w) := by
  have B0 := hide (below_next (below_alloc w (.cells #[.slice wa W.length wk, .slice fa F.length fc, .slice ca n cc] 28)) (below_alloc _ (.cells #[.int .i64 0, .slice none 0 0, .slice none 0 0, .slice none 0 0] 33)))
  have X0 := hide ((Bx3.new w (.slice wa W.length wk) (.slice fa F.length fc) (.slice ca n cc) 28).below (below_alloc _ (.cells #[.int .i64 0, .slice none 0 0, .slice none 0 0, .slice none 0 0] 33)))
  have R0 := hide (Bx4.new (w.alloc (.cells #[.slice wa W.length wk, .slice fa F.length fc, .slice ca n cc] 28)) (.int .i64 0) (.slice none 0 0) (.slice none 0 0) (.slice none 0 0) 33)
  have hs : (w.alloc (.cells #[.slice wa W.length wk, .slice fa F.length fc, .slice ca n cc] 28)).heap.size = w.heap.size + 1 := by simp
  rw [hs] at R0
  clear hs
  have HFF := hide (l10Fault_any w.heap.size wa wk W fa fc F ca cc n D P _ X0.out (h.below B0.out) hn hP hWl hFl hfc)
  rw [hz] at HFF
  have HIS := hide (fun (u : World) => dgS_any d u)
  rw [decide_eq_true hd] at HIS
  have HCP := hide (fun (u : World) (hb : Below w.heap.size w u) => l10Copy_any wa wk W fa fc F ca cc n D P u (h.below hb) hn hPl hWl hFl)
  have HF1 := hide hf
  clear h hP hz hd hf
  unfold fetV at HCP ⊢
  go_enter Tryz.func58, Tryz.ntmps58
  go_wp2_with fail
  generalize (w.alloc (.cells #[.slice wa W.length wk, .slice fa F.length fc, .slice ca n cc] 28)).alloc (.cells #[.int .i64 0, .slice none 0 0, .slice none 0 0, .slice none 0 0] 33) = W0 at *
  refine HFF.out.mono ?_
  rintro e w1 ⟨rfl, hb1⟩
  have B1 := hide (below_next B0.out hb1)
  have X1 := hide (X0.out.below hb1)
  have R1 := hide (R0.out.below hb1)
  clear hb1 X0 R0 B0 HFF
  go_wp2_with fail
  refine (HIS.out w1).mono ?_
  rintro e w1 ⟨rfl, rfl⟩
  obtain ⟨⟨t0, t1, t2⟩, -, -, -⟩ := X1.out
  go_wp2_with fail
  clear t0 t1 t2
  refine (HCP.out w1 B1.out).mono ?_
  rintro e w2 ⟨xa, xc, ya, yc, za, zc, T, rfl, hW2, hF2, hG2, hT2, hxT, hyT, hb2⟩
  have hzw := B1.out.size
  have hz2 := hb2.size
  have hr1 := R1.out.lt
  have B2 := hide (below_next (below_next B1.out hb2) (below_alloc w2 (.cells #[.slice xa W.length xc, .slice ya F.length yc, .slice za n zc] 28)))
  have A2 := hide (below_alloc w2 (.cells #[.slice xa W.length xc, .slice ya F.length yc, .slice za n zc] 28))
  have N2 := hide (Bx3.new w2 (.slice xa W.length xc) (.slice ya F.length yc) (.slice za n zc) 28)
  have R2 := hide ((R1.out.below hb2).below A2.out)
  have W2 := hide (hW2.below A2.out)
  have F2 := hide (ownsRow_below hF2 A2.out)
  have G2 := hide (hG2.below A2.out)
  have D2 : Hid (RdF (w2.alloc (.cells #[.slice xa W.length xc, .slice ya F.length yc, .slice za n zc] 28)) xa W ya F za D P n) := hide ⟨(hW2.below A2.out).rd, reads_owned (ownsRow_below hF2 A2.out) rfl, (hG2.rd).below A2.out⟩
  have hyl : ∀ b, (Value.slice ya F.length yc).ownBlock = some b → b < w2.heap.size := fun b hb => (hF2.lt b hb).2
  have hxl : ∀ b, (Value.slice xa W.length xc).ownBlock = some b → b < w2.heap.size := fun b hb => (World.ownsRow.lt hW2 b hb).2
  have hsz3 : (w2.alloc (.cells #[.slice xa W.length xc, .slice ya F.length yc, .slice za n zc] 28)).heap.size = w2.heap.size + 1 := by simp
  have HYX := hide (And.intro hyl (And.intro hxl (And.intro hxT hsz3)))
  clear hb2 hW2 hF2 hG2 R1 HCP HIS X1 hyl hxl hxT hyT hsz3
  have HAS := hide (l10Ask_failed w2.heap.size xa xc W ya yc F za zc n D P d _ N2.out D2.out hFl HF1.out)
  go_wp2_with fail
  generalize w2.alloc (.cells #[.slice xa W.length xc, .slice ya F.length yc, .slice za n zc] 28) = w3 at *
  refine HAS.out.mono ?_
  rintro e w3 ⟨rfl, rfl⟩
  go_wp2_with fail
  refine (l10Bad_any 8 w3).mono ?_
  rintro e w9 ⟨rfl, hb9⟩
  have B9 := hide (below_next B2.out hb9)
  obtain ⟨⟨m0, m1, m2, m3⟩, k0, k1, k2, k3⟩ := R2.out.below hb9
  clear hb9
  go_wp2_with fail
  have hk := Kept.fourF w9 (w.heap.size + 1) (.int .i64 8) (.slice none 0 0) (.slice none 0 0) (.slice none 0 0)
  exact bodyPost_ret (v := .agg #[.int .i64 8, .slice none 0 0, .slice none 0 0, .slice none 0 0]) (by simp [results, Tryz.results58, go_sem, m0, m1, m2, m3]) rfl (ResF.bad (B9.out.trans (hk.below (B := w.heap.size) B9.out.size (fun k hk e => by omega))))
set_option maxRecDepth 100000 in
set_option maxHeartbeats 6400000 in
theorem specAskFetch_held (wa : Option Addr) (wk : Nat) (W : List Wn) (fa : Option Addr) (fc : Nat) (F : List Int) (ca : Option Addr) (cc n : Nat) (D : Nat → Int) (P : Nat → List Int) (d : Int) (w : World) (h : RdF w wa W fa F ca D P n) (hn : n ≤ 1048576) (hP : SmallP P n) (hWl : W.length ≤ 1048576) (hFl : F.length ≤ 1048576) (hfc : F.length ≤ fc) (hz : fetFault W F D P n = 0) (hPl : ∀ i, i < n → 0 < (P i).length ∧ (P i).length ≤ 1048576) (hd : okD d) (hf : d ∉ F) (i : Nat) (hi : i < n) (hdi : D i = d) (hfi : ∀ j, j < i → D j ≠ d) :
    Calls Tryz.prog 58 #[fetV wa W.length wk fa F.length fc ca n cc, .int .i64 d] w (ResF 0 W F D P n w) := by
  have B0 := hide (below_next (below_alloc w (.cells #[.slice wa W.length wk, .slice fa F.length fc, .slice ca n cc] 28)) (below_alloc _ (.cells #[.int .i64 0, .slice none 0 0, .slice none 0 0, .slice none 0 0] 33)))
  have X0 := hide ((Bx3.new w (.slice wa W.length wk) (.slice fa F.length fc) (.slice ca n cc) 28).below (below_alloc _ (.cells #[.int .i64 0, .slice none 0 0, .slice none 0 0, .slice none 0 0] 33)))
  have R0 := hide (Bx4.new (w.alloc (.cells #[.slice wa W.length wk, .slice fa F.length fc, .slice ca n cc] 28)) (.int .i64 0) (.slice none 0 0) (.slice none 0 0) (.slice none 0 0) 33)
  have hs : (w.alloc (.cells #[.slice wa W.length wk, .slice fa F.length fc, .slice ca n cc] 28)).heap.size = w.heap.size + 1 := by simp
  rw [hs] at R0
  clear hs
  have HFF := hide (l10Fault_any w.heap.size wa wk W fa fc F ca cc n D P _ X0.out (h.below B0.out) hn hP hWl hFl hfc)
  rw [hz] at HFF
  have HIS := hide (fun (u : World) => dgS_any d u)
  rw [decide_eq_true hd] at HIS
  have HCP := hide (fun (u : World) (hb : Below w.heap.size w u) => l10Copy_any wa wk W fa fc F ca cc n D P u (h.below hb) hn hPl hWl hFl)
  have HF1 := hide (And.intro hf (And.intro hdi hfi))
  clear h hP hz hd hf hdi hfi
  unfold fetV at HCP ⊢
  go_enter Tryz.func58, Tryz.ntmps58
  go_wp2_with fail
  generalize (w.alloc (.cells #[.slice wa W.length wk, .slice fa F.length fc, .slice ca n cc] 28)).alloc (.cells #[.int .i64 0, .slice none 0 0, .slice none 0 0, .slice none 0 0] 33) = W0 at *
  refine HFF.out.mono ?_
  rintro e w1 ⟨rfl, hb1⟩
  have B1 := hide (below_next B0.out hb1)
  have X1 := hide (X0.out.below hb1)
  have R1 := hide (R0.out.below hb1)
  clear hb1 X0 R0 B0 HFF
  go_wp2_with fail
  refine (HIS.out w1).mono ?_
  rintro e w1 ⟨rfl, rfl⟩
  obtain ⟨⟨t0, t1, t2⟩, -, -, -⟩ := X1.out
  go_wp2_with fail
  clear t0 t1 t2
  refine (HCP.out w1 B1.out).mono ?_
  rintro e w2 ⟨xa, xc, ya, yc, za, zc, T, rfl, hW2, hF2, hG2, hT2, hxT, hyT, hb2⟩
  have hzw := B1.out.size
  have hz2 := hb2.size
  have hr1 := R1.out.lt
  have B2 := hide (below_next (below_next B1.out hb2) (below_alloc w2 (.cells #[.slice xa W.length xc, .slice ya F.length yc, .slice za n zc] 28)))
  have A2 := hide (below_alloc w2 (.cells #[.slice xa W.length xc, .slice ya F.length yc, .slice za n zc] 28))
  have N2 := hide (Bx3.new w2 (.slice xa W.length xc) (.slice ya F.length yc) (.slice za n zc) 28)
  have R2 := hide ((R1.out.below hb2).below A2.out)
  have W2 := hide (hW2.below A2.out)
  have F2 := hide (ownsRow_below hF2 A2.out)
  have G2 := hide (hG2.below A2.out)
  have D2 : Hid (RdF (w2.alloc (.cells #[.slice xa W.length xc, .slice ya F.length yc, .slice za n zc] 28)) xa W ya F za D P n) := hide ⟨(hW2.below A2.out).rd, reads_owned (ownsRow_below hF2 A2.out) rfl, (hG2.rd).below A2.out⟩
  have hyl : ∀ b, (Value.slice ya F.length yc).ownBlock = some b → b < w2.heap.size := fun b hb => (hF2.lt b hb).2
  have hxl : ∀ b, (Value.slice xa W.length xc).ownBlock = some b → b < w2.heap.size := fun b hb => (World.ownsRow.lt hW2 b hb).2
  have hsz3 : (w2.alloc (.cells #[.slice xa W.length xc, .slice ya F.length yc, .slice za n zc] 28)).heap.size = w2.heap.size + 1 := by simp
  have HYX := hide (And.intro hyl (And.intro hxl (And.intro hxT hsz3)))
  clear hb2 hW2 hF2 hG2 R1 HCP HIS X1 hyl hxl hxT hyT hsz3
  have HAS := hide (l10Ask_held w2.heap.size i xa xc W ya yc F za zc n D P d _ N2.out D2.out hn hFl HF1.out.1 hi HF1.out.2.1 HF1.out.2.2)
  go_wp2_with fail
  generalize w2.alloc (.cells #[.slice xa W.length xc, .slice ya F.length yc, .slice za n zc] 28) = w3 at *
  refine HAS.out.mono ?_
  rintro e w3 ⟨rfl, rfl⟩
  obtain ⟨⟨s0, s1, s2⟩, -, -, -⟩ := N2.out
  obtain ⟨⟨m0, m1, m2, m3⟩, k0, k1, k2, k3⟩ := R2.out
  go_wp2_with fail
  exact bodyPost_ret (v := .agg #[.int .i64 0, .slice xa W.length xc, .slice ya F.length yc, .slice za n zc]) (by simp [results, Tryz.results58, go_sem, m0, m1, m2, m3]) rfl (ResF.box (B := w1.heap.size) W2.out F2.out ((G2.out.mono hT2).wide (by have := HYX.out.2.2.2; omega)) B2.out (by omega) (by omega))
set_option maxRecDepth 100000 in
set_option maxHeartbeats 6400000 in
theorem specAskFetch_wanted (wa : Option Addr) (wk : Nat) (W : List Wn) (fa : Option Addr) (fc : Nat) (F : List Int) (ca : Option Addr) (cc n : Nat) (D : Nat → Int) (P : Nat → List Int) (d : Int) (w : World) (h : RdF w wa W fa F ca D P n) (hn : n ≤ 1048576) (hP : SmallP P n) (hWl : W.length ≤ 1048576) (hFl : F.length ≤ 1048576) (hfc : F.length ≤ fc) (hz : fetFault W F D P n = 0) (hPl : ∀ i, i < n → 0 < (P i).length ∧ (P i).length ≤ 1048576) (hd : okD d) (hf : d ∉ F) (hnk : ∀ j, j < n → D j ≠ d) (i : Nat) (hi : i < W.length) (hdi : (W.getD i (0, 0)).1 = d) (hfi : ∀ j, j < i → (W.getD j (0, 0)).1 ≠ d) :
    Calls Tryz.prog 58 #[fetV wa W.length wk fa F.length fc ca n cc, .int .i64 d] w (ResF 0 W F D P n w) := by
  have B0 := hide (below_next (below_alloc w (.cells #[.slice wa W.length wk, .slice fa F.length fc, .slice ca n cc] 28)) (below_alloc _ (.cells #[.int .i64 0, .slice none 0 0, .slice none 0 0, .slice none 0 0] 33)))
  have X0 := hide ((Bx3.new w (.slice wa W.length wk) (.slice fa F.length fc) (.slice ca n cc) 28).below (below_alloc _ (.cells #[.int .i64 0, .slice none 0 0, .slice none 0 0, .slice none 0 0] 33)))
  have R0 := hide (Bx4.new (w.alloc (.cells #[.slice wa W.length wk, .slice fa F.length fc, .slice ca n cc] 28)) (.int .i64 0) (.slice none 0 0) (.slice none 0 0) (.slice none 0 0) 33)
  have hs : (w.alloc (.cells #[.slice wa W.length wk, .slice fa F.length fc, .slice ca n cc] 28)).heap.size = w.heap.size + 1 := by simp
  rw [hs] at R0
  clear hs
  have HFF := hide (l10Fault_any w.heap.size wa wk W fa fc F ca cc n D P _ X0.out (h.below B0.out) hn hP hWl hFl hfc)
  rw [hz] at HFF
  have HIS := hide (fun (u : World) => dgS_any d u)
  rw [decide_eq_true hd] at HIS
  have HCP := hide (fun (u : World) (hb : Below w.heap.size w u) => l10Copy_any wa wk W fa fc F ca cc n D P u (h.below hb) hn hPl hWl hFl)
  have HF1 := hide (And.intro hf (And.intro hdi (And.intro hfi hnk)))
  clear h hP hz hd hf hdi hfi hnk
  unfold fetV at HCP ⊢
  go_enter Tryz.func58, Tryz.ntmps58
  go_wp2_with fail
  generalize (w.alloc (.cells #[.slice wa W.length wk, .slice fa F.length fc, .slice ca n cc] 28)).alloc (.cells #[.int .i64 0, .slice none 0 0, .slice none 0 0, .slice none 0 0] 33) = W0 at *
  refine HFF.out.mono ?_
  rintro e w1 ⟨rfl, hb1⟩
  have B1 := hide (below_next B0.out hb1)
  have X1 := hide (X0.out.below hb1)
  have R1 := hide (R0.out.below hb1)
  clear hb1 X0 R0 B0 HFF
  go_wp2_with fail
  refine (HIS.out w1).mono ?_
  rintro e w1 ⟨rfl, rfl⟩
  obtain ⟨⟨t0, t1, t2⟩, -, -, -⟩ := X1.out
  go_wp2_with fail
  clear t0 t1 t2
  refine (HCP.out w1 B1.out).mono ?_
  rintro e w2 ⟨xa, xc, ya, yc, za, zc, T, rfl, hW2, hF2, hG2, hT2, hxT, hyT, hb2⟩
  have hzw := B1.out.size
  have hz2 := hb2.size
  have hr1 := R1.out.lt
  have B2 := hide (below_next (below_next B1.out hb2) (below_alloc w2 (.cells #[.slice xa W.length xc, .slice ya F.length yc, .slice za n zc] 28)))
  have A2 := hide (below_alloc w2 (.cells #[.slice xa W.length xc, .slice ya F.length yc, .slice za n zc] 28))
  have N2 := hide (Bx3.new w2 (.slice xa W.length xc) (.slice ya F.length yc) (.slice za n zc) 28)
  have R2 := hide ((R1.out.below hb2).below A2.out)
  have W2 := hide (hW2.below A2.out)
  have F2 := hide (ownsRow_below hF2 A2.out)
  have G2 := hide (hG2.below A2.out)
  have D2 : Hid (RdF (w2.alloc (.cells #[.slice xa W.length xc, .slice ya F.length yc, .slice za n zc] 28)) xa W ya F za D P n) := hide ⟨(hW2.below A2.out).rd, reads_owned (ownsRow_below hF2 A2.out) rfl, (hG2.rd).below A2.out⟩
  have hyl : ∀ b, (Value.slice ya F.length yc).ownBlock = some b → b < w2.heap.size := fun b hb => (hF2.lt b hb).2
  have hxl : ∀ b, (Value.slice xa W.length xc).ownBlock = some b → b < w2.heap.size := fun b hb => (World.ownsRow.lt hW2 b hb).2
  have hsz3 : (w2.alloc (.cells #[.slice xa W.length xc, .slice ya F.length yc, .slice za n zc] 28)).heap.size = w2.heap.size + 1 := by simp
  have HYX := hide (And.intro hyl (And.intro hxl (And.intro hxT hsz3)))
  clear hb2 hW2 hF2 hG2 R1 HCP HIS X1 hyl hxl hxT hyT hsz3
  have HAS := hide (l10Ask_wanted w2.heap.size i xa xc W ya yc F za zc n D P d _ N2.out D2.out hn hWl hFl HF1.out.1 HF1.out.2.2.2 hi HF1.out.2.1 HF1.out.2.2.1)
  go_wp2_with fail
  generalize w2.alloc (.cells #[.slice xa W.length xc, .slice ya F.length yc, .slice za n zc] 28) = w3 at *
  refine HAS.out.mono ?_
  rintro e w3 ⟨rfl, rfl⟩
  obtain ⟨⟨s0, s1, s2⟩, -, -, -⟩ := N2.out
  obtain ⟨⟨m0, m1, m2, m3⟩, k0, k1, k2, k3⟩ := R2.out
  go_wp2_with fail
  exact bodyPost_ret (v := .agg #[.int .i64 0, .slice xa W.length xc, .slice ya F.length yc, .slice za n zc]) (by simp [results, Tryz.results58, go_sem, m0, m1, m2, m3]) rfl (ResF.box (B := w1.heap.size) W2.out F2.out ((G2.out.mono hT2).wide (by have := HYX.out.2.2.2; omega)) B2.out (by omega) (by omega))
set_option maxRecDepth 100000 in
set_option maxHeartbeats 6400000 in
theorem specAskFetch_many (wa : Option Addr) (wk : Nat) (W : List Wn) (fa : Option Addr) (fc : Nat) (F : List Int) (ca : Option Addr) (cc n : Nat) (D : Nat → Int) (P : Nat → List Int) (d : Int) (w : World) (h : RdF w wa W fa F ca D P n) (hn : n ≤ 1048576) (hP : SmallP P n) (hWl : W.length ≤ 1048576) (hFl : F.length ≤ 1048576) (hfc : F.length ≤ fc) (hz : fetFault W F D P n = 0) (hPl : ∀ i, i < n → 0 < (P i).length ∧ (P i).length ≤ 1048576) (hd : okD d) (hf : d ∉ F) (hnk : ∀ j, j < n → D j ≠ d) (hfi : ∀ j, j < W.length → (W.getD j (0, 0)).1 ≠ d) (h12 : 12 ≤ W.length) :
    Calls Tryz.prog 58 #[fetV wa W.length wk fa F.length fc ca n cc, .int .i64 d] w (ResF 2 [] [] D P 0 w) := by
  have B0 := hide (below_next (below_alloc w (.cells #[.slice wa W.length wk, .slice fa F.length fc, .slice ca n cc] 28)) (below_alloc _ (.cells #[.int .i64 0, .slice none 0 0, .slice none 0 0, .slice none 0 0] 33)))
  have X0 := hide ((Bx3.new w (.slice wa W.length wk) (.slice fa F.length fc) (.slice ca n cc) 28).below (below_alloc _ (.cells #[.int .i64 0, .slice none 0 0, .slice none 0 0, .slice none 0 0] 33)))
  have R0 := hide (Bx4.new (w.alloc (.cells #[.slice wa W.length wk, .slice fa F.length fc, .slice ca n cc] 28)) (.int .i64 0) (.slice none 0 0) (.slice none 0 0) (.slice none 0 0) 33)
  have hs : (w.alloc (.cells #[.slice wa W.length wk, .slice fa F.length fc, .slice ca n cc] 28)).heap.size = w.heap.size + 1 := by simp
  rw [hs] at R0
  clear hs
  have HFF := hide (l10Fault_any w.heap.size wa wk W fa fc F ca cc n D P _ X0.out (h.below B0.out) hn hP hWl hFl hfc)
  rw [hz] at HFF
  have HIS := hide (fun (u : World) => dgS_any d u)
  rw [decide_eq_true hd] at HIS
  have HCP := hide (fun (u : World) (hb : Below w.heap.size w u) => l10Copy_any wa wk W fa fc F ca cc n D P u (h.below hb) hn hPl hWl hFl)
  have HF1 := hide (And.intro hf (And.intro hfi hnk))
  clear h hP hz hd hf hfi hnk
  unfold fetV at HCP ⊢
  go_enter Tryz.func58, Tryz.ntmps58
  go_wp2_with fail
  generalize (w.alloc (.cells #[.slice wa W.length wk, .slice fa F.length fc, .slice ca n cc] 28)).alloc (.cells #[.int .i64 0, .slice none 0 0, .slice none 0 0, .slice none 0 0] 33) = W0 at *
  refine HFF.out.mono ?_
  rintro e w1 ⟨rfl, hb1⟩
  have B1 := hide (below_next B0.out hb1)
  have X1 := hide (X0.out.below hb1)
  have R1 := hide (R0.out.below hb1)
  clear hb1 X0 R0 B0 HFF
  go_wp2_with fail
  refine (HIS.out w1).mono ?_
  rintro e w1 ⟨rfl, rfl⟩
  obtain ⟨⟨t0, t1, t2⟩, -, -, -⟩ := X1.out
  go_wp2_with fail
  clear t0 t1 t2
  refine (HCP.out w1 B1.out).mono ?_
  rintro e w2 ⟨xa, xc, ya, yc, za, zc, T, rfl, hW2, hF2, hG2, hT2, hxT, hyT, hb2⟩
  have hzw := B1.out.size
  have hz2 := hb2.size
  have hr1 := R1.out.lt
  have B2 := hide (below_next (below_next B1.out hb2) (below_alloc w2 (.cells #[.slice xa W.length xc, .slice ya F.length yc, .slice za n zc] 28)))
  have A2 := hide (below_alloc w2 (.cells #[.slice xa W.length xc, .slice ya F.length yc, .slice za n zc] 28))
  have N2 := hide (Bx3.new w2 (.slice xa W.length xc) (.slice ya F.length yc) (.slice za n zc) 28)
  have R2 := hide ((R1.out.below hb2).below A2.out)
  have W2 := hide (hW2.below A2.out)
  have F2 := hide (ownsRow_below hF2 A2.out)
  have G2 := hide (hG2.below A2.out)
  have D2 : Hid (RdF (w2.alloc (.cells #[.slice xa W.length xc, .slice ya F.length yc, .slice za n zc] 28)) xa W ya F za D P n) := hide ⟨(hW2.below A2.out).rd, reads_owned (ownsRow_below hF2 A2.out) rfl, (hG2.rd).below A2.out⟩
  have hyl : ∀ b, (Value.slice ya F.length yc).ownBlock = some b → b < w2.heap.size := fun b hb => (hF2.lt b hb).2
  have hxl : ∀ b, (Value.slice xa W.length xc).ownBlock = some b → b < w2.heap.size := fun b hb => (World.ownsRow.lt hW2 b hb).2
  have hsz3 : (w2.alloc (.cells #[.slice xa W.length xc, .slice ya F.length yc, .slice za n zc] 28)).heap.size = w2.heap.size + 1 := by simp
  have HYX := hide (And.intro hyl (And.intro hxl (And.intro hxT hsz3)))
  clear hb2 hW2 hF2 hG2 R1 HCP HIS X1 hyl hxl hxT hyT hsz3
  have HAS := hide (l10Ask_many w2.heap.size xa xc W ya yc F za zc n D P d _ N2.out D2.out hn hWl hFl HF1.out.1 HF1.out.2.2 HF1.out.2.1 h12)
  go_wp2_with fail
  generalize w2.alloc (.cells #[.slice xa W.length xc, .slice ya F.length yc, .slice za n zc] 28) = w3 at *
  refine HAS.out.mono ?_
  rintro e w3 ⟨rfl, rfl⟩
  go_wp2_with fail
  refine (l10Bad_any 2 w3).mono ?_
  rintro e w9 ⟨rfl, hb9⟩
  have B9 := hide (below_next B2.out hb9)
  obtain ⟨⟨m0, m1, m2, m3⟩, k0, k1, k2, k3⟩ := R2.out.below hb9
  clear hb9
  go_wp2_with fail
  have hk := Kept.fourF w9 (w.heap.size + 1) (.int .i64 2) (.slice none 0 0) (.slice none 0 0) (.slice none 0 0)
  exact bodyPost_ret (v := .agg #[.int .i64 2, .slice none 0 0, .slice none 0 0, .slice none 0 0]) (by simp [results, Tryz.results58, go_sem, m0, m1, m2, m3]) rfl (ResF.bad (B9.out.trans (hk.below (B := w.heap.size) B9.out.size (fun k hk e => by omega))))
set_option maxRecDepth 100000 in
set_option maxHeartbeats 6400000 in
theorem specAskFetch_new (wa : Option Addr) (wk : Nat) (W : List Wn) (fa : Option Addr) (fc : Nat) (F : List Int) (ca : Option Addr) (cc n : Nat) (D : Nat → Int) (P : Nat → List Int) (d : Int) (w : World) (h : RdF w wa W fa F ca D P n) (hn : n ≤ 1048576) (hP : SmallP P n) (hWl : W.length ≤ 1048576) (hFl : F.length ≤ 1048576) (hfc : F.length ≤ fc) (hz : fetFault W F D P n = 0) (hPl : ∀ i, i < n → 0 < (P i).length ∧ (P i).length ≤ 1048576) (hd : okD d) (hf : d ∉ F) (hnk : ∀ j, j < n → D j ≠ d) (hfi : ∀ j, j < W.length → (W.getD j (0, 0)).1 ≠ d) (h12 : ¬ 12 ≤ W.length) :
    Calls Tryz.prog 58 #[fetV wa W.length wk fa F.length fc ca n cc, .int .i64 d] w (ResF 0 (W ++ [(d, 0)]) F D P n w) := by
  have B0 := hide (below_next (below_alloc w (.cells #[.slice wa W.length wk, .slice fa F.length fc, .slice ca n cc] 28)) (below_alloc _ (.cells #[.int .i64 0, .slice none 0 0, .slice none 0 0, .slice none 0 0] 33)))
  have X0 := hide ((Bx3.new w (.slice wa W.length wk) (.slice fa F.length fc) (.slice ca n cc) 28).below (below_alloc _ (.cells #[.int .i64 0, .slice none 0 0, .slice none 0 0, .slice none 0 0] 33)))
  have R0 := hide (Bx4.new (w.alloc (.cells #[.slice wa W.length wk, .slice fa F.length fc, .slice ca n cc] 28)) (.int .i64 0) (.slice none 0 0) (.slice none 0 0) (.slice none 0 0) 33)
  have hs : (w.alloc (.cells #[.slice wa W.length wk, .slice fa F.length fc, .slice ca n cc] 28)).heap.size = w.heap.size + 1 := by simp
  rw [hs] at R0
  clear hs
  have HFF := hide (l10Fault_any w.heap.size wa wk W fa fc F ca cc n D P _ X0.out (h.below B0.out) hn hP hWl hFl hfc)
  rw [hz] at HFF
  have HIS := hide (fun (u : World) => dgS_any d u)
  rw [decide_eq_true hd] at HIS
  have HCP := hide (fun (u : World) (hb : Below w.heap.size w u) => l10Copy_any wa wk W fa fc F ca cc n D P u (h.below hb) hn hPl hWl hFl)
  have HF1 := hide (And.intro hf (And.intro hfi hnk))
  clear h hP hz hd hf hfi hnk
  unfold fetV at HCP ⊢
  go_enter Tryz.func58, Tryz.ntmps58
  go_wp2_with fail
  generalize (w.alloc (.cells #[.slice wa W.length wk, .slice fa F.length fc, .slice ca n cc] 28)).alloc (.cells #[.int .i64 0, .slice none 0 0, .slice none 0 0, .slice none 0 0] 33) = W0 at *
  refine HFF.out.mono ?_
  rintro e w1 ⟨rfl, hb1⟩
  have B1 := hide (below_next B0.out hb1)
  have X1 := hide (X0.out.below hb1)
  have R1 := hide (R0.out.below hb1)
  clear hb1 X0 R0 B0 HFF
  go_wp2_with fail
  refine (HIS.out w1).mono ?_
  rintro e w1 ⟨rfl, rfl⟩
  obtain ⟨⟨t0, t1, t2⟩, -, -, -⟩ := X1.out
  go_wp2_with fail
  clear t0 t1 t2
  refine (HCP.out w1 B1.out).mono ?_
  rintro e w2 ⟨xa, xc, ya, yc, za, zc, T, rfl, hW2, hF2, hG2, hT2, hxT, hyT, hb2⟩
  have hzw := B1.out.size
  have hz2 := hb2.size
  have hr1 := R1.out.lt
  have B2 := hide (below_next (below_next B1.out hb2) (below_alloc w2 (.cells #[.slice xa W.length xc, .slice ya F.length yc, .slice za n zc] 28)))
  have A2 := hide (below_alloc w2 (.cells #[.slice xa W.length xc, .slice ya F.length yc, .slice za n zc] 28))
  have N2 := hide (Bx3.new w2 (.slice xa W.length xc) (.slice ya F.length yc) (.slice za n zc) 28)
  have R2 := hide ((R1.out.below hb2).below A2.out)
  have W2 := hide (hW2.below A2.out)
  have F2 := hide (ownsRow_below hF2 A2.out)
  have G2 := hide (hG2.below A2.out)
  have D2 : Hid (RdF (w2.alloc (.cells #[.slice xa W.length xc, .slice ya F.length yc, .slice za n zc] 28)) xa W ya F za D P n) := hide ⟨(hW2.below A2.out).rd, reads_owned (ownsRow_below hF2 A2.out) rfl, (hG2.rd).below A2.out⟩
  have hyl : ∀ b, (Value.slice ya F.length yc).ownBlock = some b → b < w2.heap.size := fun b hb => (hF2.lt b hb).2
  have hxl : ∀ b, (Value.slice xa W.length xc).ownBlock = some b → b < w2.heap.size := fun b hb => (World.ownsRow.lt hW2 b hb).2
  have hsz3 : (w2.alloc (.cells #[.slice xa W.length xc, .slice ya F.length yc, .slice za n zc] 28)).heap.size = w2.heap.size + 1 := by simp
  have HYX := hide (And.intro hyl (And.intro hxl (And.intro hxT hsz3)))
  clear hb2 hW2 hF2 hG2 R1 HCP HIS X1 hyl hxl hxT hyT hsz3
  have HAS := hide (l10Ask_new w1.heap.size w2.heap.size xa xc W ya yc F za zc n D P d _ N2.out D2.out W2.out (by have := HYX.out.2.2.2; omega) (fun e => by have := HYX.out.2.1 _ e; omega) hn hWl hFl HF1.out.1 HF1.out.2.2 HF1.out.2.1 (by omega))
  go_wp2_with fail
  generalize w2.alloc (.cells #[.slice xa W.length xc, .slice ya F.length yc, .slice za n zc] 28) = w3 at *
  refine HAS.out.mono ?_
  rintro e w4 ⟨rfl, ua, uc, hX4, hW4, hK4⟩
  have hz4 := hK4.size
  have F4 := hide (ownsRow_kept F2.out hK4 (fun b hb e => by rcases e with e | e; (have := HYX.out.1 b hb; omega); exact rows_apart W2.out F2.out (by decide) e hb))
  have G4 := hide (G2.out.kept hK4 (fun b h1 h2 e => by rcases e with e | e; omega; (have := HYX.out.2.2.1 b e; omega)))
  have B4 := hide (B2.out.trans (hK4.below (B := w.heap.size) B2.out.size (fun k hk e => by rcases e with e | e; omega; (have := (World.ownsRow.lt W2.out k e).1; omega))))
  have R4 := hide (R2.out.kept hK4 (fun e => by rcases e with e | e; omega; (have := (World.ownsRow.lt W2.out _ e).1; omega)))
  have W4 := hide hW4
  obtain ⟨⟨s0, s1, s2⟩, -, -, -⟩ := hX4
  obtain ⟨⟨m0, m1, m2, m3⟩, k0, k1, k2, k3⟩ := R4.out
  clear hW4 hK4
  go_wp2_with fail
  exact bodyPost_ret (v := .agg #[.int .i64 0, .slice ua (W ++ [(d, (0 : Int))]).length uc, .slice ya F.length yc, .slice za n zc]) (by simp [results, Tryz.results58, go_sem, m0, m1, m2, m3]) rfl (ResF.box (B := w1.heap.size) W4.out F4.out ((G4.out.mono hT2).wide (by have := HYX.out.2.2.2; omega)) B4.out (by omega) (by omega))
end Go.Proofs.YtejfcapocikjmaaGreatDoor

namespace Go.Proofs.YtejfcapocikjmaaGreatDoor
open Go.RowKit Go.Maps
set_option linter.unusedVariables false

theorem first_of {f : Nat → Int} {d : Int} (i : Nat) (h : f i = d) : ∃ k, k ≤ i ∧ f k = d ∧ ∀ j, j < k → f j ≠ d := by
  induction i using Nat.strongRecOn with
  | ind i ih =>
    by_cases hx : ∃ j, j < i ∧ f j = d
    · obtain ⟨j, hj, e⟩ := hx
      obtain ⟨k, hk, e2, h3⟩ := ih j hj e
      exact ⟨k, by omega, e2, h3⟩
    · exact ⟨i, Nat.le_refl _, h, fun j hj e => hx ⟨j, hj, e⟩⟩
theorem fet_zero {W : List Wn} {F : List Int} {D : Nat → Int} {P : Nat → List Int} {n : Nat} (h : fetFault W F D P n = 0) : RightC D P n ∧ FitF W F (keysC D n) := by
  unfold fetFault at h
  split at h
  · rename_i h1; exact absurd h h1
  · rename_i h1
    exact ⟨fault_zero (Decidable.not_not.1 h1), lists_zero.1 h⟩
theorem fet_right {W : List Wn} {F : List Int} {D : Nat → Int} {P : Nat → List Int} {n : Nat} (h1 : RightC D P n) (h2 : FitF W F (keysC D n)) : fetFault W F D P n = 0 := by
  unfold fetFault
  rw [if_neg (by rw [fault_right h1]; simp)]
  exact lists_zero.2 h2
theorem want_at {W : List Wn} {d : Int} (h : d ∈ W.map Prod.fst) : ∃ i, i < W.length ∧ (W.getD i (0, 0)).1 = d ∧ ∀ j, j < i → (W.getD j (0, 0)).1 ≠ d := by
  obtain ⟨x, hx, rfl⟩ := List.mem_map.1 h
  obtain ⟨i, hi, e⟩ := List.getElem_of_mem hx
  have e2 : (W.getD i (0, 0)).1 = x.1 := by rw [List.getD_eq_getElem?_getD, List.getElem?_eq_getElem hi]; exact congrArg Prod.fst e
  obtain ⟨k, hk, e3, h3⟩ := first_of (f := fun j => (W.getD j (0, 0)).1) i e2
  exact ⟨k, by omega, e3, h3⟩
theorem want_no {W : List Wn} {d : Int} (h : d ∉ W.map Prod.fst) : ∀ j, j < W.length → (W.getD j (0, 0)).1 ≠ d := fun j hj e => h (List.mem_map.2 ⟨_, getD_mem (0, 0) hj, e⟩)
theorem want_other {W : List Wn} {d : Int} {i : Nat} (hn : (W.map Prod.fst).Nodup) (hi : i < W.length) (hd : (W.getD i (0, 0)).1 = d) : ∀ j, j < W.length → j ≠ i → (W.getD j (0, 0)).1 ≠ d := by
  intro j hj hne e
  rw [List.nodup_iff_pairwise_ne, List.pairwise_iff_getElem] at hn
  have g : ∀ k, (hk : k < W.length) → (W.map Prod.fst)[k]'(by simpa using hk) = (W.getD k (0, 0)).1 := fun k hk => by
    rw [List.getElem_map, List.getD_eq_getElem?_getD, List.getElem?_eq_getElem hk]; rfl
  rcases Nat.lt_or_gt_of_ne hne with h | h
  · exact hn j i (by simpa using hj) (by simpa using hi) h (by rw [g j hj, g i hi, e, hd])
  · exact hn i j (by simpa using hi) (by simpa using hj) h (by rw [g j hj, g i hi, e, hd])
end Go.Proofs.YtejfcapocikjmaaGreatDoor

namespace Go.Proofs.YtejfcapocikjmaaGreatDoor
open Go.ChangeShapes Go.WideShapes Go.ChangeAt Go.RowKit
set_option linter.unusedVariables false

theorem bytes_of_trod {H : Type} {enc : TypeId × Value → H} {W : World} {a : Option Addr} {n c fuel : Nat} {x : DataW H × List MemPlace}
    (h : DataW.trod enc Tryz.prog W 0 (fun _ => true) true fuel 22 [.slice a n c] = some x) : ∃ zs : List Int, zs.length = n ∧ Reads .u8 W a zs ∧ U8 zs ∧ zs.length ≤ maxLen := by
  rcases open_ints Tryz.underlying22 Tryz.underlying5 (by kernel_rfl) h with ⟨hcs, _⟩ | ⟨x, l, c, zs, hcs, _, hl, hm, hz, _, hcell, hwz⟩
  · simp at hcs
    obtain ⟨rfl, rfl, rfl⟩ := hcs
    exact ⟨[], rfl, fun h => absurd rfl h, fun z hz => by simp at hz, Nat.zero_le _⟩
  · simp at hcs
    obtain ⟨rfl, rfl, rfl⟩ := hcs
    exact reads_of_row (by simpa using hz) hl hm hcell hwz

end Go.Proofs.YtejfcapocikjmaaGreatDoor

namespace Go.Proofs.YtejfcapocikjmaaGreatDoor
open Go.RowKit Go.Maps
set_option linter.unusedVariables false
theorem laidW_set {W : List Wn} {i : Nat} {d t : Int} (hi : i < W.length) (hd : (W.getD i (0, 0)).1 = d) :
    (flat W.length (laidW W.length W)).set (i * 2 + 1) (.int .i64 t) = flat (W.set i (d, t)).length (laidW (W.set i (d, t)).length (W.set i (d, t))) := by
  rw [List.length_set, flat_set (n := W.length) (k := 2) (F := laidW W.length W) (fun i _ => laidW_length _ _ _) i 1 hi (by decide)]
  apply flat_congr
  intro j hj
  by_cases h : j = i
  · subst h
    simp only [laidW, if_pos hj, getD_set W (0, 0) (d, t) hi, hd]
    rfl
  · simp only [laidW, if_pos hj, getD_set W (0, 0) (d, t) hi, if_neg h]
set_option maxRecDepth 100000 in
set_option maxHeartbeats 3200000 in
theorem l10Lose_more (B fb i : Nat) (wa : Option Addr) (wc : Nat) (W : List Wn) (u1 u2 : Value) (d t : Int) (w : World) (hX : Bx3 w fb (.slice wa W.length wc) u1 u2) (hO : OwnW B w (.slice wa W.length wc) W) (hfar : (Value.slice wa W.length wc).ownBlock ≠ some fb) (hWl : W.length ≤ 1048576) (hi : i < W.length) (hd : W.getD i (0, 0) = (d, t)) (h0 : 0 ≤ t) (h3 : t + 1 < 3) :
    Calls Tryz.prog 83 #[.pointer (some ⟨fb, 0, none⟩), .int .i64 i] w fun e w' => e = .returned (.int .i64 0) ∧ OwnW B w' (.slice wa W.length wc) (W.set i (d, t + 1)) ∧ Kept (fun b => (Value.slice wa W.length wc).ownBlock = some b) w w' := by
  obtain ⟨g, rfl, hc⟩ := ownsRow_addr hO (.inl (by omega))
  have hl := flat_length (n := W.length) (k := 2) (F := laidW W.length W) (fun i _ => laidW_length _ _ _)
  have hz1 : (flat W.length (laidW W.length W))[i * 2 + 1]? = some (.int .i64 t) := by
    rw [flat_get (n := W.length) (k := 2) (F := laidW W.length W) (fun i _ => laidW_length _ _ _) i 1 hi (by decide)]
    simp only [laidW, if_pos hi, hd]
    rfl
  have m1 : w.cell? ⟨g, i * 2 + 1, none⟩ = some (.int .i64 t) := (World.ownsRow.cellAt hO (i * 2 + 1) (by omega)).trans hz1
  have m2 := World.ownsRow.frozenAt hO (i * 2 + 1)
  have HS := hide (laidW_set (t := t + 1) hi (by rw [hd] : (W.getD i (0, 0)).1 = d))
  have HO := hide hO
  have hne : ¬ g = fb := fun e => hfar (by subst e; rfl)
  have hne' : ¬ fb = g := fun e => hne e.symm
  have hi0 : (0 : Int) ≤ (i : Int) := by omega
  have hi1 : (i : Int) < (W.length : Int) := by omega
  have hwr : IntKind.i64.wrap (t + 1) = t + 1 := by simp [IntKind.wrap, IntKind.signed, IntKind.bits]; omega
  clear hO hz1 hd hl hfar
  go_enter Tryz.func83, Tryz.ntmps83
  obtain ⟨⟨t0, t1, t2⟩, z0, -, -⟩ := hX
  go_wp2_with fail
  go_ret
  refine ⟨rfl, ?_, (Kept.one w g (i * 2 + 1) _).mono (fun b _ hb => by subst hb; rfl)⟩
  have h5 := (HO.out.stored (i * 2 + 1) (.int .i64 (t + 1))).1
  rw [HS.out] at h5
  have hln : (W.set i (d, t + 1)).length = W.length := by simp
  unfold OwnW
  rw [hln] at h5 ⊢
  exact h5
set_option maxRecDepth 100000 in
set_option maxHeartbeats 3200000 in
theorem l10Lose_full (B fb i : Nat) (wa : Option Addr) (wc : Nat) (W : List Wn) (fa : Option Addr) (fc fn : Nat) (u2 : Value) (d t : Int) (w : World) (hX : Bx3 w fb (.slice wa W.length wc) (.slice fa fn fc) u2) (hO : OwnW B w (.slice wa W.length wc) W) (hfar : (Value.slice wa W.length wc).ownBlock ≠ some fb) (hWl : W.length ≤ 1048576) (hi : i < W.length) (hd : W.getD i (0, 0) = (d, t)) (h0 : 0 ≤ t) (h9 : t ≤ 9) (h3 : ¬ t + 1 < 3) (h40 : 40 ≤ fn) :
    Calls Tryz.prog 83 #[.pointer (some ⟨fb, 0, none⟩), .int .i64 i] w fun e w' => e = .returned (.int .i64 2) ∧ Kept (fun b => (Value.slice wa W.length wc).ownBlock = some b) w w' := by
  obtain ⟨g, rfl, hc⟩ := ownsRow_addr hO (.inl (by omega))
  have hl := flat_length (n := W.length) (k := 2) (F := laidW W.length W) (fun i _ => laidW_length _ _ _)
  have hz1 : (flat W.length (laidW W.length W))[i * 2 + 1]? = some (.int .i64 t) := by
    rw [flat_get (n := W.length) (k := 2) (F := laidW W.length W) (fun i _ => laidW_length _ _ _) i 1 hi (by decide)]
    simp only [laidW, if_pos hi, hd]
    rfl
  have m1 : w.cell? ⟨g, i * 2 + 1, none⟩ = some (.int .i64 t) := (World.ownsRow.cellAt hO (i * 2 + 1) (by omega)).trans hz1
  have m2 := World.ownsRow.frozenAt hO (i * 2 + 1)
  have hne : ¬ g = fb := fun e => hfar (by subst e; rfl)
  have hne' : ¬ fb = g := fun e => hne e.symm
  have hi0 : (0 : Int) ≤ (i : Int) := by omega
  have hi1 : (i : Int) < (W.length : Int) := by omega
  have hwr : IntKind.i64.wrap (t + 1) = t + 1 := by simp [IntKind.wrap, IntKind.signed, IntKind.bits]; omega
  have hf0 : (40 : Int) ≤ (fn : Int) := by omega
  clear hO hz1 hd hl hfar
  go_enter Tryz.func83, Tryz.ntmps83
  obtain ⟨⟨t0, t1, t2⟩, z0, -, -⟩ := hX
  go_wp2_with fail
  go_ret
  exact ⟨rfl, (Kept.one w g (i * 2 + 1) _).mono (fun b _ hb => by subst hb; rfl)⟩
end Go.Proofs.YtejfcapocikjmaaGreatDoor

namespace Go.Proofs.YtejfcapocikjmaaGreatDoor
open Go.RowKit Go.Maps
set_option linter.unusedVariables false

structure GF (B T : Nat) (w : World) (wa : Option Addr) (wc : Nat) (W : List Wn) (fa : Option Addr) (fc : Nat) (F : List Int) (ca : Option Addr) (cc n : Nat) (D : Nat → Int) (P : Nat → List Int) : Prop where
  wants : OwnW B w (.slice wa W.length wc) W
  failed : G1 B T w (.slice fa F.length fc) F
  chunks : GC B T w (.slice ca n cc) D P n
  wlt : ∀ b, (Value.slice wa W.length wc).ownBlock = some b → b < T
theorem GF.kept {S : Nat → Prop} {B T : Nat} {w w' : World} {wa : Option Addr} {wc : Nat} {W : List Wn} {fa : Option Addr} {fc : Nat} {F : List Int} {ca : Option Addr} {cc n : Nat} {D : Nat → Int} {P : Nat → List Int} (h : GF B T w wa wc W fa fc F ca cc n D P) (hk : Kept S w w') (hn : ∀ b, B ≤ b → b < T → ¬ S b) : GF B T w' wa wc W fa fc F ca cc n D P :=
  ⟨ownsRow_kept h.wants hk (fun b hb => hn b (World.ownsRow.lt h.wants b hb).1 (h.wlt b hb)), h.failed.kept hk hn, h.chunks.kept hk hn, h.wlt⟩
theorem GF.below {B T : Nat} {w w' : World} {wa : Option Addr} {wc : Nat} {W : List Wn} {fa : Option Addr} {fc : Nat} {F : List Int} {ca : Option Addr} {cc n : Nat} {D : Nat → Int} {P : Nat → List Int} (h : GF B T w wa wc W fa fc F ca cc n D P) (hk : Below w.heap.size w w') : GF B T w' wa wc W fa fc F ca cc n D P :=
  h.kept (S := fun _ => False) (Kept.of_below hk) (fun _ _ _ => id)
theorem GF.rd {B T : Nat} {w : World} {wa : Option Addr} {wc : Nat} {W : List Wn} {fa : Option Addr} {fc : Nat} {F : List Int} {ca : Option Addr} {cc n : Nat} {D : Nat → Int} {P : Nat → List Int} (h : GF B T w wa wc W fa fc F ca cc n D P) : RdF w wa W fa F ca D P n :=
  ⟨OwnW.rd h.wants, h.failed.own.reads, h.chunks.rd⟩
theorem ResF.gf {q : Int} {W : List Wn} {F : List Int} {D : Nat → Int} {P : Nat → List Int} {n : Nat} {w w' : World} {r : Ending} (h : ResF q W F D P n w r w') :
    ∃ wa wc fa fc ca cc, r = .returned (.agg #[.int .i64 q, .slice wa W.length wc, .slice fa F.length fc, .slice ca n cc]) ∧ GF w.heap.size w'.heap.size w' wa wc W fa fc F ca cc n D P ∧ Below w.heap.size w w' := by
  obtain ⟨wa, wc, fa, fc, ca, cc, rfl, hW, hF, hG, hb⟩ := h
  exact ⟨wa, wc, fa, fc, ca, cc, rfl, ⟨hW, G1.mk hF rfl, hG, fun b hb => (World.ownsRow.lt hW b hb).2⟩, hb⟩

theorem GC.kept_row {B T B' : Nat} {w w' : World} {v v' : Value} {D : Nat → Int} {P : Nat → List Int} {n n' s : Nat} {e : TypeId} {xs : List Value} (h : GC B T w v D P n) (hr : w.ownsRow B' e s v' n' xs) (h1 : e ≠ 65) (h2 : e ≠ 5) (hk : Kept (fun b => v'.ownBlock = some b) w w') : GC B T w' v D P n := by
  obtain ⟨A, C, k1, k2, k3, k4, k5⟩ := h
  exact ⟨A, C, ownsRow_kept k1 hk (fun b hb e1 => rows_apart hr k1 h1 e1 hb), fun i hi => ownsRow_kept (k2 i hi) hk (fun b hb e1 => rows_apart hr (k2 i hi) h2 e1 hb), k3, k4, k5⟩
end Go.Proofs.YtejfcapocikjmaaGreatDoor

