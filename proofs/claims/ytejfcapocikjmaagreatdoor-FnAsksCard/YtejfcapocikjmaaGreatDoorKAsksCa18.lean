/-
  Texts put together: FetAe Parts Many.
-/
import Derived.Test.YtejfcapocikjmaaGreatDoorKAsksCa17
import Derived.Test.YtejfcapocikjmaaGreatDoorKAsksCa13
import Derived.Deep.CutBlock
import Derived.Test.YtejfcapocikjmaaGreatDoorKAsksCa2
import Derived.Test.YtejfcapocikjmaaGreatDoorKAsksCa5
namespace Go.Proofs.YtejfcapocikjmaaGreatDoor
open Go.RowKit Go.Maps
set_option linter.unusedVariables false
theorem GF.wide {B B' T T' : Nat} {w : World} {wa : Option Addr} {wc : Nat} {W : List Wn} {fa : Option Addr} {fc : Nat} {F : List Int} {ca : Option Addr} {cc n : Nat} {D : Nat → Int} {P : Nat → List Int} (h : GF B T w wa wc W fa fc F ca cc n D P) (hB : B' ≤ B) (hT : T ≤ T') : GF B' T' w wa wc W fa fc F ca cc n D P :=
  ⟨ownsRow_mono h.wants hB, ⟨ownsRow_mono h.failed.1 hB, fun b hb => Nat.lt_of_lt_of_le (h.failed.2 b hb) hT⟩, (h.chunks.mono hB).wide hT, fun b hb => Nat.lt_of_lt_of_le (h.wlt b hb) hT⟩
theorem Bx4.setAll {w : World} {b : Nat} {u0 u1 u2 u3 : Value} (h : Bx4 w b u0 u1 u2 u3) (v0 v1 v2 v3 : Value) : Bx4 ((((w.setCell ⟨b, 0, none⟩ v0).setCell ⟨b, 1, none⟩ v1).setCell ⟨b, 2, none⟩ v2).setCell ⟨b, 3, none⟩ v3) b v0 v1 v2 v3 := by
  obtain ⟨⟨m0, m1, m2, m3⟩, f0, f1, f2, f3⟩ := h
  refine ⟨⟨?_, ?_, ?_, ?_⟩, ?_, ?_, ?_, ?_⟩
  · rw [cell_set_other (by simp), cell_set_other (by simp), cell_set_other (by simp)]; exact cell_set_same m0
  · rw [cell_set_other (by simp), cell_set_other (by simp)]; exact cell_set_same (by rw [cell_set_other (by simp)]; exact m1)
  · rw [cell_set_other (by simp)]; exact cell_set_same (by rw [cell_set_other (by simp), cell_set_other (by simp)]; exact m2)
  · exact cell_set_same (by rw [cell_set_other (by simp), cell_set_other (by simp), cell_set_other (by simp)]; exact m3)
  all_goals simp only [World.frozen?_setCell]; assumption
theorem Bx3.setAll {w : World} {b : Nat} {u0 u1 u2 : Value} (h : Bx3 w b u0 u1 u2) (v0 v1 v2 : Value) : Bx3 (((w.setCell ⟨b, 0, none⟩ v0).setCell ⟨b, 1, none⟩ v1).setCell ⟨b, 2, none⟩ v2) b v0 v1 v2 := by
  obtain ⟨⟨m0, m1, m2⟩, f0, f1, f2⟩ := h
  refine ⟨⟨?_, ?_, ?_⟩, ?_, ?_, ?_⟩
  · rw [cell_set_other (by simp), cell_set_other (by simp)]; exact cell_set_same m0
  · rw [cell_set_other (by simp)]; exact cell_set_same (by rw [cell_set_other (by simp)]; exact m1)
  · exact cell_set_same (by rw [cell_set_other (by simp), cell_set_other (by simp)]; exact m2)
  all_goals simp only [World.frozen?_setCell]; assumption
theorem GF.none (B T : Nat) (w : World) (D : Nat → Int) (P : Nat → List Int) : GF B T w none 0 [] none 0 [] none 0 0 D P :=
  ⟨OwnW.nil _ _, ⟨World.ownsRow_nil _ _ _ _, fun b hb => by simp [Value.ownBlock] at hb⟩, GC.nil _ _ _ _ _, fun b hb => by simp [Value.ownBlock] at hb⟩
def AfterR (w : World) (rb p : Nat) (zs : List Int) (T : Int) (wa : Option Addr) (wk : Nat) (W : List Wn) (fa : Option Addr) (fc : Nat) (F : List Int) (ca : Option Addr) (cc n : Nat) (D : Nat → Int) (P : Nat → List Int) (u : World) : Prop :=
  ∃ (qx : Int) (x1 : Option Addr) (x2 : Nat) (Wx : List Wn) (x3 : Option Addr) (x4 : Nat) (Fx : List Int) (x5 : Option Addr) (x6 nx : Nat) (Dx : Nat → Int) (Px : Nat → List Int), Bx4 u rb (.int .i64 qx) (.slice x1 Wx.length x2) (.slice x3 Fx.length x4) (.slice x5 nx x6) ∧ GF (w.heap.size + 2) u.heap.size u x1 x2 Wx x3 x4 Fx x5 x6 nx Dx Px ∧ (qx = 0 → Nice Wx Fx Dx Px nx) ∧ Bx3 u (w.heap.size + 1) (.slice wa W.length wk) (.slice fa F.length fc) (.slice ca n cc) ∧ Bx3 u w.heap.size (.slice none 0 0) (.slice none 0 0) (.slice none 0 0) ∧ GF (w.heap.size + 2) rb u wa wk W fa fc F ca cc n D P ∧ SrcX u p zs T ∧ Kept (fun b => b = p) w u
theorem GF.fcap {B T : Nat} {w : World} {wa : Option Addr} {wc : Nat} {W : List Wn} {fa : Option Addr} {fc : Nat} {F : List Int} {ca : Option Addr} {cc n : Nat} {D : Nat → Int} {P : Nat → List Int} (h : GF B T w wa wc W fa fc F ca cc n D P) : F.length ≤ fc := ownsRow_cap h.failed.1
set_option maxRecDepth 100000 in
set_option maxHeartbeats 12800000 in
theorem l10Right_e (p : Nat) (zs : List Int) (T : Int) (w : World) (h : SrcX w p zs T) (hu : U8 zs) (hT : T ≤ 10000) (hl : zs.length ≤ 2097152) :
    Calls Tryz.prog 34 #[.pointer (some ⟨p, 0, none⟩)] w fun e w' => ∃ wa wk W fa fc F ca cc n D P, e = .returned (.agg #[.slice wa W.length wk, .slice fa F.length fc, .slice ca n cc]) ∧ GF w.heap.size w'.heap.size w' wa wk W fa fc F ca cc n D P ∧ Nice W F D P n ∧ SrcX w' p zs (T + 97) ∧ Kept (fun b => b = p) w w' := by
  have hp := h.lt
  have B0 := hide (below_next (below_alloc w (.cells #[.slice none 0 0, .slice none 0 0, .slice none 0 0] 28)) (below_alloc _ (.cells #[.slice none 0 0, .slice none 0 0, .slice none 0 0] 28)))
  have R0 := hide ((Bx3.new w (.slice none 0 0) (.slice none 0 0) (.slice none 0 0) 28).below (below_alloc _ (.cells #[.slice none 0 0, .slice none 0 0, .slice none 0 0] 28)))
  have X0 := hide (Bx3.new (w.alloc (.cells #[.slice none 0 0, .slice none 0 0, .slice none 0 0] 28)) (.slice none 0 0) (.slice none 0 0) (.slice none 0 0) 28)
  have hs : (w.alloc (.cells #[.slice none 0 0, .slice none 0 0, .slice none 0 0] 28)).heap.size = w.heap.size + 1 := by simp
  have hs2 : ((w.alloc (.cells #[.slice none 0 0, .slice none 0 0, .slice none 0 0] 28)).alloc (.cells #[.slice none 0 0, .slice none 0 0, .slice none 0 0] 28)).heap.size = w.heap.size + 2 := by simp
  rw [hs] at X0
  have HS2 := hide hs2
  have HS := hide (h.below B0.out)
  have HU := hide hu
  clear h hu hs hs2
  go_enter Tryz.func34, Tryz.ntmps34
  go_wp2_with fail
  generalize (w.alloc (.cells #[.slice none 0 0, .slice none 0 0, .slice none 0 0] 28)).alloc (.cells #[.slice none 0 0, .slice none 0 0, .slice none 0 0] 28) = W0 at *
  refine (next_e p zs T 16 W0 HS.out HU.out (by omega) (by decide) (by decide) hl).mono ?_
  rintro e w1 ⟨kk, rfl, hk16, s1, k1⟩
  have S1 := hide s1
  have K1 := hide ((Kept.of_below B0.out).trans k1)
  have X1 := hide (X0.out.kept k1 (by omega))
  have R1 := hide (R0.out.kept k1 (by omega))
  have hz1 := k1.size
  have HZ1 : Hid (w.heap.size + 2 ≤ w1.heap.size) := hide (by have := HS2.out; omega)
  clear s1 k1 HS X0 R0 B0 hz1 HS2
  go_wp2_with fail
  go_loopw [4] (fun k wr => ∃ (j : Nat) (wa : Option Addr) (wk : Nat) (W : List Wn) (fa : Option Addr) (fc : Nat) (F : List Int) (ca : Option Addr) (cc n : Nat) (D : Nat → Int) (P : Nat → List Int), j ≤ 15 ∧ k = .int .i64 j ∧ Hid (Bx3 wr (w.heap.size + 1) (.slice wa W.length wk) (.slice fa F.length fc) (.slice ca n cc)) ∧ Hid (Bx3 wr w.heap.size (.slice none 0 0) (.slice none 0 0) (.slice none 0 0)) ∧ Hid (GF (w.heap.size + 2) wr.heap.size wr wa wk W fa fc F ca cc n D P) ∧ Hid (Nice W F D P n) ∧ Hid (SrcX wr p zs (T + 97 - 6 * j)) ∧ Hid (Kept (fun b => b = p) w wr) ∧ w.heap.size + 2 ≤ wr.heap.size) (fun k _ => (intOf k).toNat)
  case atStart => exact ⟨kk, none, 0, [], none, 0, [], none, 0, 0, fun _ => 0, fun _ => [], by omega, rfl, X1, R1, hide (GF.none _ _ _ _ _), hide (Nice.none _ _), hide (S1.out.mono (by omega)), K1, HZ1.out⟩
  case round =>
    obtain ⟨j, wa, wk, W, fa, fc, F, ca, cc, n, D, P, hj, rfl, X, R, G, N, S, K, hzw⟩ := hrel
    clear X1 R1 S1 K1 HZ1
    by_cases hlt : 0 < j
    · have hj0 : (0 : Int) < (j : Int) := by omega
      go_wp2_with fail
      refine (next_e p zs _ 2 wr S.out HU.out (by omega) (by decide) (by decide) hl).mono ?_
      rintro e w2 ⟨rr, rfl, hr2, s2, k2⟩
      have S2 := hide s2
      have X2 := hide (X.out.kept k2 (by omega))
      have R2 := hide (R.out.kept k2 (by omega))
      have hz2 := k2.size
      have G2 := hide ((G.out.kept k2 (fun b h1 _ e => by omega)).wide (Nat.le_refl _) hz2)
      have K2 := hide (K.out.trans k2)
      clear s2 k2 X R G S K
      go_wp2_with fail
      have hq : (1 : Int) + (rr : Int) = ((1 + rr : Nat) : Int) := by omega
      rw [hq]
      refine (some_e p (1 + rr) zs _ w2 S2.out HU.out (by omega) hl (by omega)).mono ?_
      rintro e w3 ⟨av, ac, ds, rfl, hds, hU, hown, s3, k3⟩
      have S3 := hide s3
      have X3 := hide (X2.out.kept k3 (by omega))
      have R3 := hide (R2.out.kept k3 (by omega))
      have hz3 := k3.size
      have G3 := hide ((G2.out.kept k3 (fun b h1 _ e => by omega)).wide (Nat.le_refl _) hz3)
      have K3 := hide (K2.out.trans k3)
      have DR3 := hide (ownsRow_own hown hds.symm).reads
      have UD := hide hU
      have DP : Hid (∀ y, av = some y → y.block ≠ p) := hide (fun y hy e => by have := (hown.lt p (by subst hy; simp [Value.ownBlock, e])).1; omega)
      clear s3 k3 hown hU X2 R2 G2 S2 K2
      rw [← hds]
      have hdl : ds.length ≤ 2 := by omega
      have SX3 : Hid (SrcX w3 p zs (T + 97 - 6 * j + 3)) := hide (S3.out.mono (by omega))
      clear hds hq S3
      go_wp2_with fail
      refine (specDigestOf_any av ac ds w3 DR3.out UD.out (by omega)).mono ?_
      rintro e w3 ⟨rfl, rfl⟩
      generalize digest ds = d
      obtain ⟨q', W', F', D', P', n', hN', hask⟩ := ask_nice W F D P n d N.out
      have HA := hide (hask wa wk fa fc ca cc w3 G3.out.rd G3.out.fcap)
      have HN' := hide hN'
      unfold fetV at HA
      clear hask hN'
      obtain ⟨⟨t0, t1, t2⟩, -, -, -⟩ := X3.out
      go_wp2_with fail
      clear t0 t1 t2
      refine HA.out.mono ?_
      rintro e w4 hres
      obtain ⟨x1, x2, x3, x4, x5, x6, rfl, hg4, hb4⟩ := hres.gf
      clear hres HA
      have hz4 := hb4.size
      have A4 := hide (below_alloc w4 (.cells #[.int .i64 q', .slice x1 W'.length x2, .slice x3 F'.length x4, .slice x5 n' x6] 33))
      have QB := hide (Bx4.new w4 (.int .i64 q') (.slice x1 W'.length x2) (.slice x3 F'.length x4) (.slice x5 n' x6) 33)
      have hsA : (w4.alloc (.cells #[.int .i64 q', .slice x1 W'.length x2, .slice x3 F'.length x4, .slice x5 n' x6] 33)).heap.size = w4.heap.size + 1 := by simp
      have HSA := hide hsA
      have X4 := hide ((X3.out.below hb4).below A4.out)
      have R4 := hide ((R3.out.below hb4).below A4.out)
      have G4 := hide (((G3.out.below hb4).below A4.out).wide (B' := w.heap.size + 2) (Nat.le_refl _) (by omega : w3.heap.size ≤ w4.heap.size))
      have Q4 := hide ((hg4.below A4.out).wide (B' := w.heap.size + 2) (by omega) (Nat.le_refl w4.heap.size))
      have K4 := hide (K3.out.trans (Kept.of_below (below_next hb4 A4.out)))
      have S4 := hide ((SX3.out.below hb4).below A4.out)
      have D4 := hide ((DR3.out.below hb4).below A4.out)
      clear hg4 hb4 hsA X3 R3 G3 K3 SX3 DR3 A4
      go_wp2_with fail
      generalize w4.alloc (.cells #[.int .i64 q', .slice x1 W'.length x2, .slice x3 F'.length x4, .slice x5 n' x6] 33) = W4 at *
      have hzA : w4.heap.size + 1 ≤ W4.heap.size := by have := HSA.out; omega
      obtain ⟨rb, hrb⟩ : ∃ rb, rb = w4.heap.size := ⟨_, rfl⟩
      rw [← hrb] at QB G4 Q4 ⊢
      have hrb1 : w.heap.size + 2 ≤ rb := by omega
      have hrb2 : rb < W4.heap.size := by omega
      clear HSA hzA hz2 hz3 hz4 hrb
      refine (next_e p zs _ 5 W4 S4.out HU.out (by omega) (by decide) (by decide) hl).mono ?_
      rintro e w5 ⟨v, rfl, hv5, s5, k5⟩
      have S5 : Hid (SrcX w5 p zs (T + 97 - 6 * j + 5)) := hide (s5.mono (by omega))
      have hz5 := k5.size
      have X5 := hide (X4.out.kept k5 (by omega))
      have R5 := hide (R4.out.kept k5 (by omega))
      have Q5 := hide (QB.out.kept k5 (by omega))
      have G5 := hide (G4.out.kept k5 (fun b h1 _ e => by omega))
      have P5 := hide (Q4.out.kept k5 (fun b h1 _ e => by omega))
      have K5 := hide (K4.out.trans k5)
      have D5 : Hid (Reads .u8 w5 av ds) := hide (D4.out.kept k5 (fun hz y hy e => DP.out y hy e))
      have hrb3 : rb < w5.heap.size := by omega
      clear s5 k5 X4 R4 QB G4 Q4 K4 S4 D4 hz5
      go_upto_block 2 with fail
      go_cut [4] from 11 to 55 (fun v4 wk' => v4 = .int .i64 j ∧ Hid (AfterR w rb p zs (T + 97 - 6 * j + 5) wa wk W fa fc F ca cc n D P wk'))
      case first =>
        have HM : Hid (∀ (W2 : List Wn) (F2 : List Int) (D2 : Nat → Int) (P2 : Nat → List Int) (n2 : Nat) (q2 : Int) (w6 : World) (y1 : Option Addr) (y2 : Nat) (y3 : Option Addr) (y4 : Nat) (y5 : Option Addr) (y6 : Nat), (q2 = 0 → Nice W2 F2 D2 P2 n2) → GF w5.heap.size w6.heap.size w6 y1 y2 W2 y3 y4 F2 y5 y6 n2 D2 P2 → Below w5.heap.size w5 w6 → AfterR w rb p zs (T + 97 - 6 * j + 5) wa wk W fa fc F ca cc n D P ((((w6.setCell ⟨rb, 0, none⟩ (.int .i64 q2)).setCell ⟨rb, 1, none⟩ (.slice y1 W2.length y2)).setCell ⟨rb, 2, none⟩ (.slice y3 F2.length y4)).setCell ⟨rb, 3, none⟩ (.slice y5 n2 y6))) := hide (by
          intro W2 F2 D2 P2 n2 q2 w6 y1 y2 y3 y4 y5 y6 hN2 hg6 hb6
          have hk := Kept.fourF w6 rb (.int .i64 q2) (.slice y1 W2.length y2) (.slice y3 F2.length y4) (.slice y5 n2 y6)
          have hz6 := hb6.size
          have hz : ((((w6.setCell ⟨rb, 0, none⟩ (.int .i64 q2)).setCell ⟨rb, 1, none⟩ (.slice y1 W2.length y2)).setCell ⟨rb, 2, none⟩ (.slice y3 F2.length y4)).setCell ⟨rb, 3, none⟩ (.slice y5 n2 y6)).heap.size = w6.heap.size := by simp [World.setCell]
          refine ⟨q2, y1, y2, W2, y3, y4, F2, y5, y6, n2, D2, P2, (Q5.out.below hb6).setAll _ _ _ _, ?_, hN2, (X5.out.below hb6).kept hk (by omega), (R5.out.below hb6).kept hk (by omega), (G5.out.below hb6).kept hk (fun b h1 h2 e => by omega), (S5.out.below hb6).kept hk (fun b hb e => by omega), (K5.out.trans (Kept.of_below hb6)).trans_own hk (fun b hb e => by omega)⟩
          rw [hz]
          exact (hg6.kept hk (fun b h1 _ e => by omega)).wide (by omega) (Nat.le_refl _))
        have HK0 : Hid (AfterR w rb p zs (T + 97 - 6 * j + 5) wa wk W fa fc F ca cc n D P w5) := hide ⟨q', x1, x2, W', x3, x4, F', x5, x6, n', D', P', Q5.out, P5.out.wide (Nat.le_refl _) (by omega), HN'.out, X5.out, R5.out, G5.out, S5.out, K5.out⟩
        obtain ⟨⟨t0, t1, t2⟩, -, -, -⟩ := X5.out
        have hv : v = 0 ∨ v = 1 ∨ v = 2 ∨ 3 ≤ v := by omega
        rcases hv with hv | hv | hv | hv
        · subst hv
          obtain ⟨q2, W2, F2, D2, P2, n2, hN2, hh⟩ := hear_nice W F D P n d ds N.out UD.out (by omega)
          have HA := hide (hh wa wk fa fc ca cc av ac w5 G5.out.rd G5.out.fcap D5.out)
          have HN2 := hide hN2
          unfold fetV at HA
          clear hh hN2
          go_wp2_with fail
          clear t0 t1 t2
          refine HA.out.mono ?_
          rintro e w6 hres
          obtain ⟨y1, y2, y3, y4, y5, y6, rfl, hg6, hb6⟩ := hres.gf
          have HF6 := hide (HM.out W2 F2 D2 P2 n2 q2 w6 y1 y2 y3 y4 y5 y6 HN2.out hg6 hb6)
          obtain ⟨⟨m0, m1, m2, m3⟩, k0, k1, k2, k3⟩ := Q5.out.below hb6
          clear hres hg6 hb6
          go_wp2_with fail
          go_meet
          case rel => exact ⟨rfl, HF6⟩
        · subst hv
          obtain ⟨q2, W2, F2, D2, P2, n2, hN2, hh⟩ := lose_nice W F D P n d N.out
          have HA := hide (hh wa wk fa fc ca cc w5 G5.out.rd G5.out.fcap)
          have HN2 := hide hN2
          unfold fetV at HA
          clear hh hN2
          go_wp2_with fail
          clear t0 t1 t2
          refine HA.out.mono ?_
          rintro e w6 hres
          obtain ⟨y1, y2, y3, y4, y5, y6, rfl, hg6, hb6⟩ := hres.gf
          have HF6 := hide (HM.out W2 F2 D2 P2 n2 q2 w6 y1 y2 y3 y4 y5 y6 HN2.out hg6 hb6)
          obtain ⟨⟨m0, m1, m2, m3⟩, k0, k1, k2, k3⟩ := Q5.out.below hb6
          clear hres hg6 hb6
          go_wp2_with fail
          go_meet
          case rel => exact ⟨rfl, HF6⟩
        · subst hv
          by_cases hw0 : 0 < W.length
          · obtain ⟨g, hga, hgc⟩ := ownsRow_addr (show w5.ownsRow _ _ _ _ _ _ from G5.out.wants) (.inl hw0)
            subst hga
            obtain ⟨d0, hd0⟩ : ∃ d0, d0 = (W.getD 0 (0, 0)).1 := ⟨_, rfl⟩
            have c0 : w5.cell? ⟨g, 0, none⟩ = some (.int .i64 d0) := by
              obtain ⟨b1, o1, e1, hb1, hc1⟩ := (OwnW.rd G5.out.wants) (by intro e; simp [e] at hw0)
              simp only [Option.some.injEq, Addr.mk.injEq, and_true] at e1
              obtain ⟨rfl, rfl⟩ := e1
              have := (hc1 0 hw0).1
              rw [hd0]
              simpa using this
            have hgl : g < w5.heap.size := World.block_lt_of_cell? w5 ⟨g, 0, none⟩ c0
            obtain ⟨q2, W2, F2, D2, P2, n2, hN2, hh⟩ := lose_nice W F D P n d0 N.out
            have HA := hide (fun (u : World) (hb : Below w5.heap.size w5 u) => hh (some ⟨g, 0, none⟩) wk fa fc ca cc u (G5.out.rd.below hb) G5.out.fcap)
            have HN2 := hide hN2
            have hw1 : (0 : Int) < (W.length : Int) := by omega
            unfold fetV at HA
            clear hh hN2 hd0
            have KB : Hid (∀ u : World, Below w5.heap.size w5 u → (u.cell? ⟨w.heap.size + 1, 0, none⟩ = some (.slice (some ⟨g, 0, none⟩) W.length wk) ∧ u.cell? ⟨w.heap.size + 1, 1, none⟩ = some (.slice fa F.length fc) ∧ u.cell? ⟨w.heap.size + 1, 2, none⟩ = some (.slice ca n cc)) ∧ u.cell? ⟨g, 0, none⟩ = some (.int .i64 d0)) := hide (fun u hb => ⟨(X5.out.below hb).1, (hb.cell (p := ⟨g, 0, none⟩) hgl).trans c0⟩)
            have hgr : g < rb := G5.out.wlt g rfl
            have KS : Hid (∀ (u : World) (v0 v1 v2 v3 : Value), Below w5.heap.size w5 u → (((((u.setCell ⟨rb, 0, none⟩ v0).setCell ⟨rb, 1, none⟩ v1).setCell ⟨rb, 2, none⟩ v2).setCell ⟨rb, 3, none⟩ v3).cell? ⟨w.heap.size + 1, 0, none⟩ = some (.slice (some ⟨g, 0, none⟩) W.length wk) ∧ ((((u.setCell ⟨rb, 0, none⟩ v0).setCell ⟨rb, 1, none⟩ v1).setCell ⟨rb, 2, none⟩ v2).setCell ⟨rb, 3, none⟩ v3).cell? ⟨w.heap.size + 1, 1, none⟩ = some (.slice fa F.length fc) ∧ ((((u.setCell ⟨rb, 0, none⟩ v0).setCell ⟨rb, 1, none⟩ v1).setCell ⟨rb, 2, none⟩ v2).setCell ⟨rb, 3, none⟩ v3).cell? ⟨w.heap.size + 1, 2, none⟩ = some (.slice ca n cc)) ∧ ((((u.setCell ⟨rb, 0, none⟩ v0).setCell ⟨rb, 1, none⟩ v1).setCell ⟨rb, 2, none⟩ v2).setCell ⟨rb, 3, none⟩ v3).cell? ⟨g, 0, none⟩ = some (.int .i64 d0)) := hide (fun u v0 v1 v2 v3 hb => by
              have hk := Kept.fourF u rb v0 v1 v2 v3
              have hzu := hb.size
              exact ⟨((X5.out.below hb).kept hk (by omega)).1, (hk.cell (p := ⟨g, 0, none⟩) (Nat.lt_of_lt_of_le hgl hzu) (by show ¬ g = rb; omega)).trans ((hb.cell (p := ⟨g, 0, none⟩) hgl).trans c0)⟩)
            go_upto_region 15 with fail
            go_region_held3 (fun u => (u.cell? ⟨w.heap.size + 1, 0, none⟩ = some (.slice (some ⟨g, 0, none⟩) W.length wk) ∧ u.cell? ⟨w.heap.size + 1, 1, none⟩ = some (.slice fa F.length fc) ∧ u.cell? ⟨w.heap.size + 1, 2, none⟩ = some (.slice ca n cc)) ∧ u.cell? ⟨g, 0, none⟩ = some (.int .i64 d0)) (first | exact KB.out _ BB6.out | exact KS.out _ _ _ _ _ BB6.out | exact KB.out _ (Below.refl _ _).drew | go_keep)
              ((go_at_call 60; refine (HA.out _ (Below.refl _ _).drew).mono ?_; rintro e w6 hres; obtain ⟨y1, y2, y3, y4, y5, y6, rfl, hg6, hb6⟩ := hres.gf; have BB6 := hide ((Below.refl w5.heap.size w5).drew.trans hb6); have HF6 := hide (HM.out W2 F2 D2 P2 n2 q2 w6 y1 y2 y3 y4 y5 y6 HN2.out hg6 BB6.out); obtain ⟨⟨m0, m1, m2, m3⟩, k0, k1, k2, k3⟩ := Q5.out.below BB6.out; clear hres hg6 hb6))
            go_wp2_with fail
            go_meet
            case rel => exact ⟨rfl, HF6⟩
          · have hw1 : ¬ (0 : Int) < (W.length : Int) := by omega
            go_wp2_with fail
            go_meet
            case rel => exact ⟨rfl, HK0⟩
        · have e0 : ¬ (v : Int) = 0 := by omega
          have e1 : ¬ (v : Int) = 1 := by omega
          have e2 : ¬ (v : Int) = 2 := by omega
          have f0 : ((v : Int) == 0) = false := by simpa using e0
          have f1 : ((v : Int) == 1) = false := by simpa using e1
          have f2 : ((v : Int) == 2) = false := by simpa using e2
          go_wp2_with fail
          go_meet
          case rel => exact ⟨rfl, HK0⟩
      case rest =>
        obtain ⟨rfl, qx, y1, y2, Wx, y3, y4, Fx, y5, y6, nx, Dx, Px, hQ, hGx, hNx, hX, hR, hG, hS, hK⟩ := hcut
        obtain ⟨WW, hWW⟩ : ∃ x, x = wc := ⟨_, rfl⟩
        subst hWW
        have hzK := hK.size
        have hrbW := hQ.lt
        clear X5 R5 Q5 G5 P5 K5 S5 D5 HN' UD DP
        by_cases hq : qx = 0
        · have HNx := hide (hNx hq)
          have Q6 := hide hQ
          have X6 := hide hX
          have R6 := hide hR
          have G6 := hide hGx
          have S6 := hide hS
          have K6 := hide hK
          subst hq
          clear hNx hQ hX hR hGx hG hS hK
          obtain ⟨⟨m0, m1, m2, m3⟩, -, -, -, -⟩ := Q6.out
          obtain ⟨⟨t0, t1, t2⟩, t3, t4, t5⟩ := X6.out
          have hk := hide (Kept.threeF WW (w.heap.size + 1) (.slice y1 Wx.length y2) (.slice y3 Fx.length y4) (.slice y5 nx y6))
          have hz : Hid ((((WW.setCell ⟨w.heap.size + 1, 0, none⟩ (.slice y1 Wx.length y2)).setCell ⟨w.heap.size + 1, 1, none⟩ (.slice y3 Fx.length y4)).setCell ⟨w.heap.size + 1, 2, none⟩ (.slice y5 nx y6)).heap.size = WW.heap.size) := hide (by simp [World.setCell])
          go_wp2_with fail
          go_roundw
          case rel =>
            refine ⟨j - 1, y1, y2, Wx, y3, y4, Fx, y5, y6, nx, Dx, Px, by omega, by go_num, hide (X6.out.setAll _ _ _), hide (R6.out.kept hk.out (by omega)), hide ?_, HNx, hide ((S6.out.kept hk.out (fun b hb e => by omega)).mono (by omega)), hide (K6.out.trans_own hk.out (fun b hb e => by omega)), by rw [hz.out]; omega⟩
            rw [hz.out]
            exact G6.out.kept hk.out (fun b h1 _ e => by omega)
          case measure => simp [intOf]; omega
        · have hqb : (qx == 0) = false := by simpa using hq
          have Q6 := hide hQ
          have X6 := hide hX
          have R6 := hide hR
          have G6 := hide (hG.wide (T' := WW.heap.size) (Nat.le_refl _) (by omega))
          have S6 := hide hS
          have K6 := hide hK
          clear hNx hQ hX hR hGx hG hS hK
          obtain ⟨⟨m0, m1, m2, m3⟩, -, -, -, -⟩ := Q6.out
          go_wp2_with fail
          go_roundw
          case rel => exact ⟨j - 1, wa, wk, W, fa, fc, F, ca, cc, n, D, P, by omega, by go_num, X6, R6, G6, N, hide (S6.out.mono (by omega)), K6, by omega⟩
          case measure => simp [intOf]; omega
    · have hj0 : j = 0 := by omega
      subst hj0
      obtain ⟨⟨t0, t1, t2⟩, -, -, -⟩ := X.out
      obtain ⟨⟨m0, m1, m2⟩, k0, k1, k2⟩ := R.out
      go_wp2_with fail
      have hk := Kept.threeF wr w.heap.size (.slice wa W.length wk) (.slice fa F.length fc) (.slice ca n cc)
      have hz : (((wr.setCell ⟨w.heap.size, 0, none⟩ (.slice wa W.length wk)).setCell ⟨w.heap.size, 1, none⟩ (.slice fa F.length fc)).setCell ⟨w.heap.size, 2, none⟩ (.slice ca n cc)).heap.size = wr.heap.size := by simp [World.setCell]
      refine bodyPost_ret (v := .agg #[.slice wa W.length wk, .slice fa F.length fc, .slice ca n cc]) (by simp [results, Tryz.results34, go_sem, m0, m1, m2]) rfl ⟨wa, wk, W, fa, fc, F, ca, cc, n, D, P, rfl, ?_, N.out, ?_, ?_⟩
      · rw [hz]
        exact (G.out.kept hk (fun b h1 _ e => by omega)).wide (by omega) (Nat.le_refl _)
      · exact (S.out.kept hk (fun b hb e => by omega)).mono (by omega)
      · exact K.out.trans_own hk (fun b hb e => by omega)
end Go.Proofs.YtejfcapocikjmaaGreatDoor

namespace Go.Proofs.YtejfcapocikjmaaGreatDoor
open Go.RowKit
set_option linter.unusedVariables false

theorem reads_of_ownsRow {w : World} {B : Nat} {e : TypeId} {k : IntKind} {g n c : Nat} {zs : List Int} (h : w.ownsRow B e 1 (.slice (some ⟨g, 0, none⟩) n c) n (zs.map (Value.int k))) (hn : n = zs.length) : Own k w (some ⟨g, 0, none⟩) zs := by
  intro hz
  have h0 : 0 < n := by rw [hn]; exact List.length_pos_iff.2 hz
  refine ⟨g, 0, rfl, (h.lt g rfl).2, fun i hi => ⟨?_, h.frozenAt _⟩⟩
  rw [Nat.zero_add, h.cellAt i (by omega)]
  simp [List.getD_eq_getElem?_getD, hi]

theorem Grow2.shape {B : Nat} {w : World} {v : Value} {P : Nat → List Int} {j : Nat} (h : Grow2 B w v P j) : ∃ a c, v = .slice a j c := by
  obtain ⟨A, C, h1, h2, h3⟩ := h
  exact ownsRow_shape h1

def G2 (B T : Nat) (w : World) (v : Value) (P : Nat → List Int) (n : Nat) : Prop :=
  ∃ A C : Nat → Nat, w.ownsRow B 22 1 v n ((List.range n).map fun i => .slice (some ⟨A i, 0, none⟩) (P i).length (C i)) ∧
    (∀ i, i < n → w.ownsRow B 5 1 (.slice (some ⟨A i, 0, none⟩) (P i).length (C i)) (P i).length ((P i).map (Value.int .u8))) ∧
    (∀ i i', i < n → i' < n → A i = A i' → i = i') ∧ (∀ i, i < n → A i < T) ∧ ∀ b, v.ownBlock = some b → b < T
theorem U8.piece {zs : List Int} (h : U8 zs) (i : Nat) : U8 (piece zs i) := fun z hz => h z (List.mem_of_mem_drop (List.mem_of_mem_take hz))

theorem Grow2.at {B : Nat} {w : World} {a : Option Addr} {c : Nat} {P : Nat → List Int} {n j : Nat} (h : Grow2 B w (.slice a n c) P n) (hj : j < n) :
    ∃ g x d, a = some ⟨g, 0, none⟩ ∧ w.cell? ⟨g, j, none⟩ = some (.slice x (P j).length d) ∧ Reads .u8 w x (P j) := by
  obtain ⟨A, C, h1, h2, h3⟩ := h
  rcases h1.2 with ⟨_, h0⟩ | ⟨g, cap, cur, h', hb, hh, _⟩
  · omega
  · simp only [Value.slice.injEq, true_and] at h'
    obtain ⟨rfl, rfl⟩ := h'
    refine ⟨g, _, C j, rfl, ?_, (reads_of_ownsRow (h2 j hj) rfl).reads⟩
    rw [h1.cellAt j (by omega)]
    simp [hj]

end Go.Proofs.YtejfcapocikjmaaGreatDoor

namespace Go.Proofs.YtejfcapocikjmaaGreatDoor
open Go.RowKit Go.Maps
set_option linter.unusedVariables false
attribute [local go_sem ↓] Go.wp_at_zero Go.wp_at_succ

def plc (D : Nat → Int) (d : Int) : Nat → Nat
  | 0 => 0
  | n + 1 => if plc D d n < n then plc D d n else if D n < d then n + 1 else n
theorem plc_ok (D : Nat → Int) (d : Int) : ∀ n, plc D d n ≤ n ∧ (∀ i, i < plc D d n → D i < d) ∧ (plc D d n < n → ¬ D (plc D d n) < d)
  | 0 => ⟨Nat.le_refl _, fun i hi => absurd hi (by simp [plc]), fun h => absurd h (by simp [plc])⟩
  | n + 1 => by
    obtain ⟨h1, h2, h3⟩ := plc_ok D d n
    by_cases e : plc D d n < n
    · have : plc D d (n + 1) = plc D d n := by simp only [plc, if_pos e]
      rw [this]
      exact ⟨by omega, h2, fun _ => h3 e⟩
    · have hmn : plc D d n = n := by omega
      by_cases hp : D n < d
      · have : plc D d (n + 1) = n + 1 := by simp only [plc, if_neg e, if_pos hp]
        rw [this]
        refine ⟨Nat.le_refl _, fun j hj => ?_, fun h => absurd h (by omega)⟩
        by_cases ej : j = n
        · subst ej; exact hp
        · exact h2 j (by omega)
      · have : plc D d (n + 1) = n := by simp only [plc, if_neg e, if_neg hp]
        rw [this]
        exact ⟨by omega, fun i hi => h2 i (by omega), fun _ => hp⟩

abbrev St := (Nat → Int) × (Nat → List Int) × Nat
def hasS (s : St) (d : Int) : Bool := (List.range s.2.2).any fun i => s.1 i == d
theorem hasS_true {s : St} {d : Int} (h : hasS s d = true) : ∃ i, i < s.2.2 ∧ s.1 i = d := by simpa [hasS] using h
theorem hasS_false {s : St} {d : Int} (h : hasS s d = false) : ∀ i, i < s.2.2 → s.1 i ≠ d := by simpa [hasS] using h
def putSC (s : St) (z : List Int) : St := (ins s.1 (plc s.1 (digest z) s.2.2) (digest z), ins s.2.1 (plc s.1 (digest z) s.2.2) z, s.2.2 + 1)
def stepS (s : St) (z : List Int) : Option St := if hasS s (digest z) then some s else if 40 ≤ s.2.2 then none else some (putSC s z)
def runS (s : St) (Z : Nat → List Int) : Nat → Option St
  | 0 => some s
  | k + 1 => (runS s Z k).bind fun t => stepS t (Z k)
theorem runS_none {s : St} {Z : Nat → List Int} {k : Nat} (h : runS s Z k = none) : ∀ n, k ≤ n → runS s Z n = none := by
  intro n hn
  induction n with
  | zero => have : k = 0 := by omega
            subst this; exact h
  | succ n ih =>
    by_cases e : k = n + 1
    · subst e; exact h
    · simp only [runS, ih (by omega), Option.bind_none]
theorem runS_next {s t : St} {Z : Nat → List Int} {k : Nat} (h : runS s Z k = some t) : runS s Z (k + 1) = stepS t (Z k) := by simp [runS, h]

theorem RightC.put {s : St} (h : RightC s.1 s.2.1 s.2.2) {z : List Int} (hz : 1 ≤ z.length ∧ z.length ≤ 8) (hd : hasS s (digest z) = false) (hf : ¬ 40 ≤ s.2.2) : RightC (putSC s z).1 (putSC s z).2.1 (putSC s z).2.2 := by
  obtain ⟨D, P, n⟩ := s
  obtain ⟨h1, h2, h3⟩ := plc_ok D (digest z) n
  have hdr := digest_range z
  have hup := ins_up h h1 h2 h3 (hasS_false hd)
  simp only [putSC] at *
  generalize plc D (digest z) n = m at *
  refine ⟨by omega, fun i hi => ?_, fun i hi => ?_, fun i hi => ?_, fun i hi => hup i (i + 1) (by omega) hi⟩
  all_goals
    unfold ins
    by_cases e1 : i < m
    · simp only [if_pos e1]
      first | exact h.range i (by omega) | exact h.len i (by omega) | exact h.sum i (by omega)
    · simp only [if_neg e1]
      by_cases e2 : i = m
      · first | (simp only [if_pos e2]; done) | (simp only [if_pos e2]; exact hdr) | (simp only [if_pos e2]; exact hz)
      · simp only [if_neg e2]
        first | exact h.range (i - 1) (by omega) | exact h.len (i - 1) (by omega) | exact h.sum (i - 1) (by omega)

def PostL (o : Option St) (w : World) (e : Ending) (w' : World) : Prop :=
  (match o with
    | none => e = .returned (.tuple #[.slice none 0 0, .bool false])
    | some t => ∃ g cv, e = .returned (.tuple #[.slice (some ⟨g, 0, none⟩) t.2.2 cv, .bool true]) ∧ t.2.2 ≤ cv ∧ RightC t.1 t.2.1 t.2.2 ∧ GC w.heap.size w'.heap.size w' (.slice (some ⟨g, 0, none⟩) t.2.2 cv) t.1 t.2.1 t.2.2) ∧ Below w.heap.size w w'

set_option maxRecDepth 100000 in
set_option maxHeartbeats 6400000 in
theorem l2Bytes_any (a : Option Addr) (c n : Nat) (D : Nat → Int) (P : Nat → List Int) (a2 : Option Addr) (c2 : Nat) (zs : List Int) (w : World) (h : RdC w a D P n) (hR : RightC D P n) (h2 : Reads .u8 w a2 zs) (hu : U8 zs) (hcap : zs.length ≤ c2) (hl : zs.length ≤ 1048576) :
    Calls Tryz.prog 85 #[.slice a n c, .slice a2 zs.length c2] w (PostL (runS (D, P, n) (piece zs) (cut zs).length) w) := by
  have hn : n ≤ 1048576 := by have := hR.many; omega
  have HA := hide h
  have HRt := hide hR
  have HR := hide h2
  have HU := hide hu
  have hN : (cut zs).length ≤ 1048576 := by rw [cut_length]; omega
  have HPL : Hid (∀ j, j < (cut zs).length → 1 ≤ (piece zs j).length ∧ (piece zs j).length ≤ 8) := fun j hj => by rw [cut_length] at hj; rw [piece_length]; omega
  have HC := hide (l1Cut_any a2 c2 zs w h2 hcap hl)
  generalize hNN : (cut zs).length = N at *
  clear h hR h2 hu hNN
  generalize hrs : runS (D, P, n) (piece zs) N = RS
  have HRS := hide hrs
  clear hrs
  go_enter Tryz.func85, Tryz.ntmps85
  go_wp2_with fail
  refine HC.out.mono ?_
  rintro e w1 ⟨pv, rfl, hG1, b1⟩
  obtain ⟨pa, pc, rfl⟩ := hG1.shape
  have G1 := hide hG1
  have B1 := hide b1
  have hs1 := b1.size
  clear hG1 b1 HC
  go_wp2_with fail
  refine (l2Copy_at a c n D P w1 (HA.out.below B1.out) hn (fun i hi => HRt.out.u8len hi)).mono ?_
  rintro e w2 ⟨g2, cv2, rfl, hcv2, hG2, b2⟩
  have hs2 := b2.size
  have C2 := hide (hG2.mono hs1)
  have G2 := hide (G1.out.below b2)
  have B2 := hide (below_next B1.out b2)
  clear hG2 b2 G1 B1
  go_wp2
  go_loopw [7, 8, 9, 10] (fun v i _ _ wr => ∃ (j : Nat) (t : St) (g cv : Nat), j ≤ N ∧ i = .int .i64 j ∧ v = .slice (some ⟨g, 0, none⟩) t.2.2 cv ∧ t.2.2 ≤ cv ∧ runS (D, P, n) (piece zs) j = some t ∧ RightC t.1 t.2.1 t.2.2 ∧ GC w.heap.size wr.heap.size wr (.slice (some ⟨g, 0, none⟩) t.2.2 cv) t.1 t.2.1 t.2.2 ∧ Grow2 w.heap.size wr (.slice pa N pc) (piece zs) N ∧ Below w.heap.size w wr) (fun _ i _ _ _ => N - (intOf i).toNat)
  case atStart => exact ⟨0, (D, P, n), g2, cv2, Nat.zero_le _, rfl, rfl, hcv2, rfl, HRt.out, C2.out, G2.out, B2.out⟩
  case round =>
    obtain ⟨j, ⟨D1, P1, n1⟩, g, cv, hj, rfl, rfl, hcv, hrun, hR1, hG, hP, hbel⟩ := hrel
    simp only at hcv hR1 hG
    have HW := hide hbel
    have hsz := hbel.size
    have HG := hide hG
    have HPr := hide hP
    have HR1 := hide hR1
    have hn40 := hR1.many
    have HRun := hide hrun
    have HNx := hide (runS_next hrun)
    clear C2 G2 B2 hG hR1 hrun hbel
    by_cases hlt : j < N
    · obtain ⟨gp, x, dx, rfl, hc0, hr0⟩ := hP.at hlt
      have hpl := HPL.out j hlt
      have HUz := hide (HU.out.piece j)
      have hgp : gp < wr.heap.size := World.block_lt_of_cell? wr ⟨gp, j, none⟩ hc0
      have hj0 : (0 : Int) ≤ (j : Int) := by omega
      have hj1 : (j : Int) < (N : Int) := by omega
      generalize piece zs j = z at *
      have HRz := hide hr0
      have HDg := hide (specDigestOf_any x dx z wr.drew hr0 HUz.out (by omega))
      have HRd := hide (HG.out.rd)
      have HPl1 : Hid (∀ i, i < n1 → 0 < (P1 i).length ∧ (P1 i).length ≤ 1048576) := fun i hi => HR1.out.u8len hi
      clear hr0 hP
      cases hh : hasS (D1, P1, n1) (digest z) with
      | true =>
        have HEq : Hid (runS (D, P, n) (piece zs) (j + 1) = some (D1, P1, n1)) := by rw [HNx.out]; unfold stepS; rw [if_pos hh]; exact hide rfl
        have HPt := hide (l2Put_there_at (some ⟨g, 0, none⟩) cv n1 D1 P1 (digest z) x z.length dx wr.drew HRd.out (by omega) HPl1.out (hasS_true hh))
        clear hh
        generalize digest z = dz at *
        go_wp2_with fail
        go_region_held3 (fun w' => w'.cell? ⟨gp, j, none⟩ = some (.slice x z.length dx)) (first | trivial | go_keep | (exact (hbp.cell (p := ⟨gp, j, none⟩) hgp).trans hc0))
          ((first
            | (go_at_call 57; refine HDg.out.mono ?_; rintro e w1' ⟨rfl, rfl⟩)
            | (go_at_call 84; refine HPt.out.mono ?_; rintro e w3 ⟨g3, cv3, rfl, hcv3, hG3, hbp⟩; have C3 := hide hG3; have BB3 := hide (((Below.refl wr.heap.size wr).drew).trans hbp); clear hG3)))
        clear hbp
        go_wp2
        go_roundw
        case rel => exact ⟨j + 1, (D1, P1, n1), g3, cv3, by omega, by go_num, rfl, hcv3, HEq.out, HR1.out, C3.out.mono hsz, HPr.out.below BB3.out, below_next' HW.out BB3.out⟩
        case measure => simp [intOf]; omega
      | false =>
        by_cases hf : 40 ≤ n1
        · have HEq : Hid (RS = none) := by rw [← HRS.out]; exact runS_none (k := j + 1) (by rw [HNx.out]; unfold stepS; rw [hh, if_neg (by simp), if_pos hf]) N (by omega)
          have HPt := hide (l2Put_full (some ⟨g, 0, none⟩) cv n1 D1 P1 (digest z) x z.length dx wr.drew HRd.out (by omega) (hasS_false hh) hf)
          clear hh
          generalize digest z = dz at *
          go_wp2_with fail
          go_region_held3 (fun w' => w'.cell? ⟨gp, j, none⟩ = some (.slice x z.length dx)) (first | trivial | go_keep | (exact (hbp.cell (p := ⟨gp, j, none⟩) hgp).trans hc0))
            ((first
              | (go_at_call 57; refine HDg.out.mono ?_; rintro e w1' ⟨rfl, rfl⟩)
              | (go_at_call 84; refine HPt.out.mono ?_; rintro e w3 ⟨rfl, hbp⟩; have BB3 := hide (((Below.refl wr.heap.size wr).drew).trans hbp))))
          clear hbp
          have HE := HEq.out
          subst HE
          go_wp2
          exact bodyPost_ret (v := .tuple #[.slice none 0 0, .bool false]) (by simp [results, Tryz.results85, go_sem]) rfl ⟨rfl, below_next' HW.out BB3.out⟩
        · have HEq : Hid (runS (D, P, n) (piece zs) (j + 1) = some (putSC (D1, P1, n1) z)) := by rw [HNx.out]; unfold stepS; rw [hh, if_neg (by simp), if_neg hf]; exact hide rfl
          have HR2 := hide (RightC.put (s := (D1, P1, n1)) HR1.out hpl hh hf)
          obtain ⟨p1, p2, p3⟩ := plc_ok D1 (digest z) n1
          have HPt := hide (l2Put_new g 0 cv n1 (plc D1 (digest z) n1) D1 P1 (digest z) x dx z wr.drew HRd.out hcv (by omega) HPl1.out HRz.out ⟨by omega, by omega⟩ (hasS_false hh) p1 p2 p3)
          have HPu : Hid (putSC (D1, P1, n1) z = (ins D1 (plc D1 (digest z) n1) (digest z), ins P1 (plc D1 (digest z) n1) z, n1 + 1)) := hide rfl
          clear hh p1 p2 p3
          generalize hpu : putSC (D1, P1, n1) z = t2 at *
          clear hpu
          obtain ⟨D2, P2, n2⟩ := t2
          simp only [Prod.mk.injEq] at HPu
          obtain ⟨hD2, hP2, hn2⟩ := HPu.out
          rw [← hD2, ← hP2, ← hn2] at HPt
          have hn2p : 0 < n2 := by omega
          clear HPu hD2 hP2 hn2
          generalize digest z = dz at *
          go_wp2_with fail
          go_region_held3 (fun w' => w'.cell? ⟨gp, j, none⟩ = some (.slice x z.length dx)) (first | trivial | go_keep | (exact (hbp.cell (p := ⟨gp, j, none⟩) hgp).trans hc0))
            ((first
              | (go_at_call 57; refine HDg.out.mono ?_; rintro e w1' ⟨rfl, rfl⟩)
              | (go_at_call 84; refine HPt.out.mono ?_; rintro e w3 ⟨av3, cv3, rfl, hG3, hbp⟩; obtain ⟨g3, h3, hcv3⟩ := hG3.addr (.inl hn2p); subst h3; have C3 := hide hG3; have BB3 := hide (((Below.refl wr.heap.size wr).drew).trans hbp); clear hG3)))
          clear hbp
          go_wp2
          go_roundw
          case rel => exact ⟨j + 1, (D2, P2, n2), g3, cv3, by omega, by go_num, rfl, hcv3, HEq.out, HR2.out, C3.out.mono hsz, HPr.out.below BB3.out, below_next' HW.out BB3.out⟩
          case measure => simp [intOf]; omega
    · have hje : j = N := by omega
      subst hje
      have HE : RS = some (D1, P1, n1) := by rw [← HRS.out]; exact HRun.out
      subst HE
      clear hP
      go_wp2
      exact bodyPost_ret (v := .tuple #[.slice (some ⟨g, 0, none⟩) n1 cv, .bool true]) (by simp [results, Tryz.results85, go_sem]) rfl ⟨⟨g, cv, rfl, hcv, HR1.out, HG.out⟩, HW.out⟩

end Go.Proofs.YtejfcapocikjmaaGreatDoor

