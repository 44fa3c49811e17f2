/-
  Texts put together: FetAi FetAj HandE FetAk.
-/
import Derived.Test.YtfamiehfpmjljaaGreatDoorKFetche15
import Derived.Test.YtfamiehfpmjljaaGreatDoorKFetche3
import Derived.Lay
import Derived.LaidHandle
import Derived.LaidSub
import Derived.Stop.LaidTwo
import Derived.Deep.RegionHeld3
import Derived.Deep.CutBlock
namespace Go.Proofs.YtfamiehfpmjljaaGreatDoor
open Go.RowKit Go.Maps
set_option linter.unusedVariables false
set_option maxRecDepth 100000 in
set_option maxHeartbeats 12800000 in
theorem drawHearFetch_e (HBent : BentC) (a0 : Option Addr) (cap : Nat) (zs : List Int) (w : World) (h : Reads .u8 w a0 zs) (hu : U8 zs) (hl : zs.length ≤ 1048576) :
    Calls Tryz.prog 10 #[.slice a0 zs.length cap] w fun e w' => ∃ wa wk W fa fc F ca cc n D P d av ac ds, e = .returned (.tuple #[.agg #[.slice wa (List.length W) wk, .slice fa (List.length F) fc, .slice ca n cc], .int .i64 d, .slice av (List.length ds) ac]) ∧ RdF w' wa W fa F ca D P n ∧ F.length ≤ fc ∧ Sm W F P n ∧ Reads .u8 w' av ds ∧ U8 ds ∧ ds.length ≤ 2 ∧ Below w.heap.size w w' := by
  obtain ⟨i0, ki0, kz0, kz1, kz2⟩ := info_parts Tryz.infoU8
  have B0 := hide (below_alloc w (.cells #[.slice none 0 0, .slice none 0 0, .slice none 0 0] 28))
  have R0 := hide (Bx3.new w (.slice none 0 0) (.slice none 0 0) (.slice none 0 0) 28)
  have HR := hide h
  have HU := hide hu
  have hm1 : 1 + zs.length ≤ maxLen := by unfold maxLen; omega
  have hm2 : (1 + zs.length) * 1 ≤ 140737488355328 := by omega
  have HZ0 : Hid (w.heap.size < (w.alloc (.cells #[.slice none 0 0, .slice none 0 0, .slice none 0 0] 28)).heap.size) := hide (by simp)
  clear h hu
  go_enter Tryz.func10, Tryz.ntmps10
  go_wp2_with fail
  generalize w.alloc (.cells #[.slice none 0 0, .slice none 0 0, .slice none 0 0] 28) = W0 at *
  refine (l10With_e HBent a0 cap zs W0 (HR.out.below B0.out) HU.out hl).mono ?_
  rintro e w1 ⟨wa, wk, W, fa, fc, F, ca, cc, n, D, P, d, av, ac, ds, rfl, ho1, hsm, hd1, hU, hdl, hda, hb1⟩
  have hz1 := hb1.size
  have A1 := hide (below_alloc w1 (.cells #[.slice wa W.length wk, .slice fa F.length fc, .slice ca n cc] 28))
  have X1 := hide (Bx3.new w1 (.slice wa W.length wk) (.slice fa F.length fc) (.slice ca n cc) 28)
  have R1 := hide ((R0.out.below hb1).below A1.out)
  have hfc := ho1.fcap
  have O1 := hide ho1
  have Dd := hide hd1
  have DY := hide hda
  have HW0 : Hid (w.heap.size + 1 ≤ W0.heap.size) := hide (by have := HZ0.out; omega)
  have B1 := hide (below_next (below_next B0.out hb1) A1.out)
  have HSm := hide hsm
  have UD := hide hU
  have hzw : w.heap.size < w1.heap.size := by have := HZ0.out; omega
  have HZ1 : Hid (w1.heap.size < (w1.alloc (.cells #[.slice wa W.length wk, .slice fa F.length fc, .slice ca n cc] 28)).heap.size) := hide (by simp)
  have AA := hide A1.out
  clear ho1 hd1 hb1 hsm hU hda R0 B0 HZ0 hz1
  go_upto_region 2 with fail
  generalize w1.alloc (.cells #[.slice wa W.length wk, .slice fa F.length fc, .slice ca n cc] 28) = W1 at *
  obtain ⟨fb, hfb⟩ : ∃ fb, fb = w1.heap.size := ⟨_, rfl⟩
  rw [← hfb] at X1 hzw HZ1 AA DY ⊢
  have HFB : Hid (fb = w1.heap.size) := hide hfb
  clear hfb A1
  have hfbl := HZ1.out
  have R3 : Hid (Reads .u8 (W1.alloc (.cells #[.int .u8 8] 5)) a0 zs) := hide ((HR.out.below B1.out).below (below_alloc _ _))
  have O3 : Hid ((W1.alloc (.cells #[.int .u8 8] 5)).ownsRow W1.heap.size 5 1 (.slice (some ⟨W1.heap.size, 0, none⟩) 1 1) 1 ([8].map (Value.int .u8))) := hide ⟨rfl, .inr ⟨W1.heap.size, 1, #[.int .u8 8], rfl, Nat.le_refl _, heap_alloc_new W1 _, Nat.le_refl _, by decide, rfl, rfl⟩⟩
  have hs3 : W1.heap.size ≤ (W1.alloc (.cells #[.int .u8 8] 5)).heap.size := by simp
  go_wp2_with (first | (at_builtin; refine wpList_append_reads rfl (.tmp 16) (.tmp 17) 22 rfl W1.heap.size 5 i0 .u8 (.slice 5) Tryz.underlying22 ki0 kz0 kz1 kz2 W1.heap.size 1 1 [8] rfl O3.out a0 zs.length cap zs rfl rfl R3.out hm1 hm2 hs3 ?_; intro av0 ac0 w4 ho4 hk4; have O4 := hide ho4; have K4 := hide hk4; clear ho4 hk4) | fail)
  have k4 : Below W1.heap.size W1 w4 := (below_alloc W1 (.cells #[.int .u8 8] 5)).trans (K4.out.below (B := W1.heap.size) hs3 (fun b hb e => by omega))
  have hlen : 1 + zs.length = ([8] ++ zs).length := by simp; omega
  have hu2 : U8 ([8] ++ zs) := fun z hz => by
    rcases List.mem_append.1 hz with hz | hz
    · simp at hz; omega
    · exact HU.out z hz
  have R4 : Hid (Reads .u8 w4 av0 ([8] ++ zs)) := hide (ownsRow_own O4.out hlen).reads
  have hl2 : ([8] ++ zs).length ≤ 2097152 := by rw [← hlen]; omega
  have HS := hide (l1Source_any av0 ac0 ([8] ++ zs) w4 R4.out)
  have HU2 := hide hu2
  have HL2 := hide hl2
  rw [hlen]
  obtain ⟨ys, hys⟩ : ∃ ys, ys = [8] ++ zs := ⟨_, rfl⟩
  rw [← hys] at HS HU2 HL2 ⊢
  have X4 := hide (X1.out.below k4)
  have R5 := hide (R1.out.below k4)
  have AB := hide (AA.out.trans (k4.mono (by omega)))
  have B4 := hide (below_next B1.out k4)
  have hz4 := k4.size
  clear R4 O4 K4 k4 O3 R3 hu2 hl2 hlen hys X1 R1 B1 hs3 HZ1 AA
  refine HS.out.mono ?_
  rintro e w5 ⟨rfl, s5, hz5, b5⟩
  obtain ⟨p, hp⟩ : ∃ p, p = w4.heap.size := ⟨_, rfl⟩
  rw [← hp] at s5 ⊢
  have S5 : Hid (SrcX w5 p ys 0) := hide ⟨0, by omega, by omega, s5⟩
  have X5 := hide (X4.out.below b5)
  have R6 := hide (R5.out.below b5)
  have B5 := hide (below_next B4.out b5)
  have hpf : fb < p := by omega
  have hp5 : p < w5.heap.size := S5.out.lt
  have hpw : w.heap.size < p := by omega
  have FQ : Hid (∀ u : World, Kept (fun b => b = p) w5 u → ∀ u' : World, Kept (fun b => b = w.heap.size) u u' → RdF u' wa W fa F ca D P n) := hide (fun u hku u' hk' => by
    have h15 : Below w1.heap.size w1 w5 := by rw [← HFB.out]; exact AB.out.trans (b5.mono (by omega))
    have k2 : Kept (fun b => b = w.heap.size) w1 u := (Kept.of_below h15).trans_own hku (fun b hb e => by have := HFB.out; omega)
    exact (O1.out.kept (k2.trans hk') (fun b h1 e => by have := HW0.out; omega)).rd)
  have DP : Hid (Reads .u8 w5 av ds) := hide (by
    have h15 : Below w1.heap.size w1 w5 := by rw [← HFB.out]; exact AB.out.trans (b5.mono (by omega))
    exact Dd.out.below h15)
  have DA : Hid (∀ y, av = some y → y.block ≠ p ∧ y.block ≠ w.heap.size) := hide (fun y hy => by have := DY.out y hy; have := HW0.out; constructor <;> omega)
  clear s5 hz5 b5 X4 R5 B4 HS hp AB
  go_wp2_with fail
  go_loopw [7, 9] (fun v7 k wr => ∃ (j : Nat) (bv : Option Addr) (bc : Nat) (es : List Int), j ≤ 40 ∧ k = .int .i64 j ∧ v7 = .slice bv es.length bc ∧ es.length ≤ 2 ∧ Hid (Reads .u8 wr bv es) ∧ Hid (U8 es) ∧ Hid (∀ y, bv = some y → y.block ≠ p ∧ y.block ≠ w.heap.size) ∧ Hid (SrcX wr p ys (4 * j)) ∧ Hid (Kept (fun b => b = p) w5 wr)) (fun _ k _ => 40 - (intOf k).toNat)
  case atStart => exact ⟨0, av, ac, ds, by omega, rfl, rfl, hdl, DP, UD, DA, hide (S5.out.mono (by omega)), hide (Kept.refl _ _)⟩
  case round =>
    obtain ⟨j, bv, bc, es, hj, rfl, rfl, hes, RE, UE, EA, S, K⟩ := hrel
    have hzK := K.out.size
    clear S5
    have HEnd : Hid (∀ u : World, Reads .u8 u bv es → Kept (fun b => b = p) w5 u → ∃ wa' wk' W' fa' fc' F' ca' cc' n' D' P' d' av' ac' ds', Ending.returned (.tuple #[.agg #[.slice wa W.length wk, .slice fa F.length fc, .slice ca n cc], .int .i64 d, .slice bv es.length bc]) = .returned (.tuple #[.agg #[.slice wa' (List.length W') wk', .slice fa' (List.length F') fc', .slice ca' n' cc'], .int .i64 d', .slice av' (List.length ds') ac']) ∧ RdF (((u.setCell ⟨w.heap.size, 0, none⟩ (.slice wa W.length wk)).setCell ⟨w.heap.size, 1, none⟩ (.slice fa F.length fc)).setCell ⟨w.heap.size, 2, none⟩ (.slice ca n cc)) wa' W' fa' F' ca' D' P' n' ∧ F'.length ≤ fc' ∧ Sm W' F' P' n' ∧ Reads .u8 (((u.setCell ⟨w.heap.size, 0, none⟩ (.slice wa W.length wk)).setCell ⟨w.heap.size, 1, none⟩ (.slice fa F.length fc)).setCell ⟨w.heap.size, 2, none⟩ (.slice ca n cc)) av' ds' ∧ U8 ds' ∧ ds'.length ≤ 2 ∧ Below w.heap.size w (((u.setCell ⟨w.heap.size, 0, none⟩ (.slice wa W.length wk)).setCell ⟨w.heap.size, 1, none⟩ (.slice fa F.length fc)).setCell ⟨w.heap.size, 2, none⟩ (.slice ca n cc))) := hide (by
      intro u hre hku
      have hk := Kept.threeF u w.heap.size (.slice wa W.length wk) (.slice fa F.length fc) (.slice ca n cc)
      have hbu : Below w.heap.size w u := B5.out.trans (hku.below (B := w.heap.size) B5.out.size (fun k hk e => by omega))
      exact ⟨wa, wk, W, fa, fc, F, ca, cc, n, D, P, d, bv, bc, es, rfl, FQ.out u hku _ hk, hfc, HSm.out, hre.kept hk (fun _ y hy e => (EA.out y hy).2 e), UE.out, hes, hbu.trans (hk.below (B := w.heap.size) hbu.size (fun k hk e => by omega))⟩)
    by_cases hlt : j < 40
    · have hj1 : (j : Int) < 40 := by omega
      have hjd : decide ((j : Int) < 40) = true := decide_eq_true hj1
      go_wp2_with fail
      refine (chance_e p ys _ 6 wr S.out HU2.out (by omega) (by decide) (by decide) HL2.out).mono ?_
      rintro e w6 ⟨r, rfl, s6, k6⟩
      have S6 := hide s6
      have K6 := hide (K.out.trans k6)
      have RE6 := hide (RE.out.kept k6 (fun _ y hy e => (EA.out y hy).1 e))
      clear s6 k6 S K RE
      cases r with
      | true =>
        obtain ⟨⟨x0, x1, x2⟩, -, -, -⟩ := X5.out.kept K6.out (by omega)
        obtain ⟨⟨m0, m1, m2⟩, k0, k1, k2⟩ := R6.out.kept K6.out (by omega)
        go_wp2_with fail
        exact bodyPost_ret (v := .tuple #[.agg #[.slice wa W.length wk, .slice fa F.length fc, .slice ca n cc], .int .i64 d, .slice bv es.length bc]) (by simp [results, Tryz.results10, go_sem, m0, m1, m2]) rfl (HEnd.out w6 RE6.out K6.out)
      | false =>
        go_wp2_with fail
        refine (specDigestOf_any bv bc es w6 RE6.out UE.out (by omega)).mono ?_
        rintro e w6 ⟨rfl, rfl⟩
        generalize digest es = de
        by_cases hde : de = d
        · have hdb : (de == d) = true := by simpa using hde
          obtain ⟨⟨x0, x1, x2⟩, -, -, -⟩ := X5.out.kept K6.out (by omega)
          obtain ⟨⟨m0, m1, m2⟩, k0, k1, k2⟩ := R6.out.kept K6.out (by omega)
          go_wp2_with fail
          exact bodyPost_ret (v := .tuple #[.agg #[.slice wa W.length wk, .slice fa F.length fc, .slice ca n cc], .int .i64 d, .slice bv es.length bc]) (by simp [results, Tryz.results10, go_sem, m0, m1, m2]) rfl (HEnd.out w6 RE6.out K6.out)
        · have hdb : (de == d) = false := by simpa using hde
          go_wp2_with fail
          refine (next_e p ys _ 2 w6 S6.out HU2.out (by omega) (by decide) (by decide) HL2.out).mono ?_
          rintro e w7 ⟨rr, rfl, hr2, s7, k7⟩
          have S7 := hide s7
          have K7 := hide (K6.out.trans k7)
          have hz7 := K7.out.size
          clear s7 k7 S6 K6 RE6 HEnd
          go_wp2_with fail
          have hq : (1 : Int) + (rr : Int) = ((1 + rr : Nat) : Int) := by omega
          rw [hq]
          refine (some_e p (1 + rr) ys _ w7 S7.out HU2.out (by omega) HL2.out (by omega)).mono ?_
          rintro e w8 ⟨ev, ec, fs, rfl, hfs, hUf, hown, s8, k8⟩
          have S8 := hide (s8.mono (T' := 4 * ((j + 1 : Nat) : Int)) (by omega))
          have K8 := hide (K7.out.trans k8)
          have RF := hide (ownsRow_own hown hfs.symm).reads
          have UF := hide hUf
          have EF : Hid (∀ y, ev = some y → y.block ≠ p ∧ y.block ≠ w.heap.size) := hide (fun y hy => ⟨fun e => by have := (hown.lt p (by subst hy; simp [Value.ownBlock, e])).1; omega, fun e => by have := (hown.lt w.heap.size (by subst hy; simp [Value.ownBlock, e])).1; omega⟩)
          rw [← hfs]
          have hfl : fs.length ≤ 2 := by omega
          clear s8 k8 hown hUf hq hfs S7 K7
          go_wp2_with fail
          go_roundw
          case rel => exact ⟨j + 1, ev, ec, fs, by omega, by go_num, rfl, hfl, RF, UF, EF, S8, K8⟩
          case measure => simp [intOf]; omega
    · have hj1 : ¬ (j : Int) < 40 := by omega
      have hjd : decide ((j : Int) < 40) = false := decide_eq_false hj1
      obtain ⟨⟨x0, x1, x2⟩, -, -, -⟩ := X5.out.kept K.out (by omega)
      obtain ⟨⟨m0, m1, m2⟩, k0, k1, k2⟩ := R6.out.kept K.out (by omega)
      go_wp2_with fail
      exact bodyPost_ret (v := .tuple #[.agg #[.slice wa W.length wk, .slice fa F.length fc, .slice ca n cc], .int .i64 d, .slice bv es.length bc]) (by simp [results, Tryz.results10, go_sem, m0, m1, m2]) rfl (HEnd.out wr RE.out K.out)
end Go.Proofs.YtfamiehfpmjljaaGreatDoor

namespace Go.Proofs.YtfamiehfpmjljaaGreatDoor
open Go.RowKit Go.Maps
set_option linter.unusedVariables false
theorem heard (W : List Wn) (F : List Int) (D : Nat → Int) (P : Nat → List Int) (n : Nat) (d : Int) (zs : List Int) (hsm : Sm W F P n) (hu : U8 zs) (hl : zs.length ≤ 1048576) :
    (∃ q W' F' D' P' n', q ≠ 0 ∧
      (∀ wa wk fa fc ca cc da dc u, RdF u wa W fa F ca D P n → F.length ≤ fc → Reads .u8 u da zs → Calls Tryz.prog 12 #[fetV wa W.length wk fa F.length fc ca n cc, .int .i64 d, .slice da zs.length dc] u (ResF q W' F' D' P' n' u)) ∧
      (∀ wa wk fa fc ca cc da dc u a0 a1, Ge u a0 a1 → RdF u wa W fa F ca D P n → Reads .u8 u da zs → Calls Tryz.prog 11 #[fetV wa W.length wk fa F.length fc ca n cc, .int .i64 d, .slice da zs.length dc] u (ResF q W' F' D' P' n' u))) ∨
    (∃ i t W' F' D' P' n', Nice W F D P n ∧ i < W.length ∧ W.getD i (0, 0) = (d, t) ∧ okD d ∧ (0 ≤ t ∧ t < 3) ∧ Nice W' F' D' P' n' ∧ W'.length ≤ W.length ∧ (oneFault d zs = 0 → ∃ j, j < n' ∧ D' j = d ∧ P' j = zs) ∧ (oneFault d zs ≠ 0 → ∀ j, j < n' → D' j ≠ d) ∧
      (∀ wa wk fa fc ca cc da dc u a0 a1, Ge u a0 a1 → RdF u wa W fa F ca D P n → Reads .u8 u da zs → Calls Tryz.prog 11 #[fetV wa W.length wk fa F.length fc ca n cc, .int .i64 d, .slice da zs.length dc] u (ResF 0 W' F' D' P' n' u))) := by
  have hP := hsm.sp
  have hn : n ≤ 1048576 := by have := hsm.sn; omega
  have hWl : W.length ≤ 1048576 := by have := hsm.sw; omega
  have hFl : F.length ≤ 1048576 := by have := hsm.sf; omega
  by_cases hz : fetFault W F D P n = 0
  · obtain ⟨hR, hfit⟩ := fet_zero hz
    have hN : Nice W F D P n := ⟨hR, hfit, fun i hi => (hP i hi).1⟩
    have hPl : ∀ i, i < n → 0 < (P i).length ∧ (P i).length ≤ 1048576 := fun i hi => hR.u8len hi
    by_cases hw : d ∈ W.map Prod.fst
    · obtain ⟨i, hi, e, hfi⟩ := want_at hw
      have hx := hfit.wok _ (getD_mem (0, 0) hi)
      have hoth := want_other hfit.wone hi e
      obtain ⟨t, ht⟩ : ∃ t, t = (W.getD i (0, 0)).2 := ⟨_, rfl⟩
      have hd : W.getD i (0, 0) = (d, t) := by rw [← e, ht]
      rw [← ht, e] at hx
      have h0 := hx.2.1
      have h9 : t ≤ 9 := by omega
      have hnk : ∀ j, j < n → D j ≠ d := fun j hj e2 => (hfit.wfree _ (getD_mem (0, 0) hi)).1 (by rw [e]; exact mem_keysC.2 ⟨j, hj, e2⟩)
      have hel := erase_len hi
      by_cases hO : oneFault d zs = 0
      · have hz8 := (oneFault_zero hO).2.1
        by_cases h40 : 40 ≤ n
        · exact .inl ⟨2, [], [], D, P, 0, by decide, fun wa wk fa fc ca cc da dc u h hfc hr => specHearFetch_many wa wk W fa fc F ca cc n D P d u h hn hP hWl hFl hfc da dc zs hr hu hl hz hPl i t hi hd hfi hO hnk h40, fun wa wk fa fc ca cc da dc u a0 a1 hg h hr => implHearFetch_full wa wk W fa fc F ca cc n D P d da dc zs u a0 a1 hg h hn hP hWl hFl hr hu hl hO hz hR i hi e hoth hnk h40⟩
        · obtain ⟨m, hm, hlow, hhigh⟩ := place_of D d n
          exact .inr ⟨i, t, W.eraseIdx i, F, ins D m d, ins P m zs, n + 1, hN, hi, hd, hx.1, ⟨h0, hx.2.2⟩, ⟨right_ins hR hO hm hlow hhigh hnk h40, fit_heard hfit hi hd hm, u8_ins hN.u8 hu hm⟩, by omega, fun _ => ⟨m, by omega, by simp [ins], by simp [ins]⟩, fun h => absurd hO h, fun wa wk fa fc ca cc da dc u a0 a1 hg h hr => implHearFetch_new wa wk W fa fc F ca cc n D P d da dc zs u h hn hP hWl hFl hr hu hl hO hz hR i hi e hoth hnk (by omega) m hm hlow hhigh⟩
      · by_cases h3 : t + 1 < 3
        · exact .inr ⟨i, t, W.set i (d, t + 1), F, D, P, n, hN, hi, hd, hx.1, ⟨h0, hx.2.2⟩, ⟨hR, fit_set hfit hi hd (by omega) h3, hN.u8⟩, by simp, fun h => absurd h hO, fun _ => hnk, fun wa wk fa fc ca cc da dc u a0 a1 hg h hr => implHearFetch_lost wa wk W fa fc F ca cc n D P d da dc zs u h hn hP hWl hFl hr hu hl hO _ _ _ _ _ _ (fun v hb => implLoseFetch_more wa wk W fa fc F ca cc n D P d v (h.below hb) hn hP hWl hFl hz hR i t hi hd hoth h0 h3)⟩
        · by_cases h40 : 40 ≤ F.length
          · exact .inl ⟨2, [], [], D, P, 0, by decide, fun wa wk fa fc ca cc da dc u h hfc hr => specHearFetch_full wa wk W fa fc F ca cc n D P d u h hn hP hWl hFl hfc da dc zs hr hu hl hz hPl i t hi hd hfi hO h0 h9 h3 h40, fun wa wk fa fc ca cc da dc u a0 a1 hg h hr => implHearFetch_lost wa wk W fa fc F ca cc n D P d da dc zs u h hn hP hWl hFl hr hu hl hO _ _ _ _ _ _ (fun v hb => implLoseFetch_full wa wk W fa fc F ca cc n D P d v a0 a1 (hg.below hb) (h.below hb) hn hP hWl hFl hz hR i t hi hd hoth h0 h9 h3 h40)⟩
          · exact .inr ⟨i, t, W.eraseIdx i, F ++ [d], D, P, n, hN, hi, hd, hx.1, ⟨h0, hx.2.2⟩, ⟨hR, fit_fail hfit hi hd h40, hN.u8⟩, by omega, fun h => absurd h hO, fun _ => hnk, fun wa wk fa fc ca cc da dc u a0 a1 hg h hr => implHearFetch_lost wa wk W fa fc F ca cc n D P d da dc zs u h hn hP hWl hFl hr hu hl hO _ _ _ _ _ _ (fun v hb => implLoseFetch_last wa wk W fa fc F ca cc n D P d v a0 a1 (hg.below hb) (h.below hb) hn hP hWl hFl hz hR i t hi hd hoth h0 h9 h3 h40)⟩
    · refine .inl ⟨4, [], [], D, P, 0, by decide, fun wa wk fa fc ca cc da dc u h hfc hr => specHearFetch_none wa wk W fa fc F ca cc n D P d u h hn hP hWl hFl hfc da dc zs hr hu hl hz (want_no hw), fun wa wk fa fc ca cc da dc u a0 a1 hg h hr => ?_⟩
      by_cases hO : oneFault d zs = 0
      · exact implHearFetch_none wa wk W fa fc F ca cc n D P d da dc zs u a0 a1 hg h hn hP hWl hFl hr hu hl hO hz hR (want_no hw)
      · exact implHearFetch_lost wa wk W fa fc F ca cc n D P d da dc zs u h hn hP hWl hFl hr hu hl hO _ _ _ _ _ _ (fun v hb => implLoseFetch_none wa wk W fa fc F ca cc n D P d v a0 a1 (hg.below hb) (h.below hb) hn hP hWl hFl hz hR (want_no hw))
  · refine .inl ⟨fetFault W F D P n, [], [], D, P, 0, hz, fun wa wk fa fc ca cc da dc u h hfc hr => specHearFetch_bad wa wk W fa fc F ca cc n D P d u h hn hP hWl hFl hfc da dc zs hr hu hl hz, fun wa wk fa fc ca cc da dc u a0 a1 hg h hr => ?_⟩
    by_cases hO : oneFault d zs = 0
    · exact implHearFetch_bad wa wk W fa fc F ca cc n D P d da dc zs u h hn hP hWl hFl hr hu hl hO hz
    · exact implHearFetch_lost wa wk W fa fc F ca cc n D P d da dc zs u h hn hP hWl hFl hr hu hl hO _ _ _ _ _ _ (fun v hb => implLoseFetch_bad wa wk W fa fc F ca cc n D P d v (h.below hb) hn hP hWl hFl hz)
def AtL (W : List Wn) (F : List Int) (i : Nat) (d t : Int) (k : Nat) (W1 : List Wn) (F1 : List Int) : Prop :=
  (W1.length = W.length ∧ W1.getD i (0, 0) = (d, t + k) ∧ t + k < 3 ∧ F1 = F ∧ W1.eraseIdx i = W.eraseIdx i) ∨ (W1 = W.eraseIdx i ∧ F1 = F ++ [d] ∧ ¬ 40 ≤ F.length)
end Go.Proofs.YtfamiehfpmjljaaGreatDoor

namespace Go.Proofs.YtfamiehfpmjljaaGreatDoor
open Go
set_option linter.unusedVariables false

theorem laidMetH_layVars {P : Program} {w0 : World} {laid : List (String × DataW Unit)} (args : Array Value)
    (hf : w0.layFits P (laid.filter fun x => x.2.handleName?.isNone) [] = true)
    (hi : w0.layIfaces P (laid.filter fun x => x.2.handleName?.isNone) (w0.layVars P (laid.filter fun x => x.2.handleName?.isNone)) = true)
    (hh : (laid.filter fun x => x.2.handleName?.isSome).all (handleAtB P ((w0.layVars P (laid.filter fun x => x.2.handleName?.isNone)).forCall (fun _ _ => 0) ⟨#[], args, []⟩).memory) = true) :
    laidMetH P laid ((w0.layVars P (laid.filter fun x => x.2.handleName?.isNone)).forCall (fun _ _ => 0) ⟨#[], args, []⟩).memory := by
  refine laidMetH_of_parts ?_ hh
  generalize (laid.filter fun x => x.2.handleName?.isNone) = l at hf hi
  have e1 : (l.filter fun x => (l.map (·.1)).contains x.1) = l := List.filter_eq_self.2 fun x hx => List.contains_iff_mem.2 (List.mem_map.2 ⟨x, hx, rfl⟩)
  have e2 : (l.filter fun x => !(l.map (·.1)).contains x.1) = [] := List.filter_eq_nil_iff.2 fun x hx => by rw [List.contains_iff_mem.2 (List.mem_map.2 ⟨x, hx, rfl⟩)]; simp
  have h : laidMet P l (w0.layVars P l) := laidMet_layVars (w0 := w0) (l.map (·.1)) [] (by rw [e1]) (by rw [e1]; exact hf) (by rw [e1]; exact hi) (by rw [e2]; exact LaidIn.none)
  exact h.of_heap (by simp [World.memory, World.forCall, Input.heap])
theorem gE : Tryz.prog.globalNamed "errors.errorType" = some 2 := by kernel_rfl
theorem gRt : (Tryz.prog.cutTypes.find? (·.1 == "internal/reflectlite.rtype")).map (·.2) = some 189 := by kernel_rfl
theorem gOne : ((List.range 295).filter fun t => Tryz.prog.rowNamed t [101, 114, 114, 111, 114]) = [76] := by kernel_rfl
theorem gSize : Tryz.prog.types.size = 295 := by kernel_rfl
theorem gStar : "*" ++ "errors.errorString" = "*errors.errorString" := by decide
theorem gRow (u : TypeId) (h : Tryz.prog.typeName? 3 u = some "*errors.errorString") : u = 262 :=
  typeName_ptr_named (nm := "errors.errorString") (by rw [gStar]; kernel_rfl) (by kernel_rfl) (by decide) u (by rw [gStar]; exact h)
theorem gU : Tryz.prog.globalNamed "loop.example/g00299/impl.errUnwanted" = some 0 := by kernel_rfl
theorem gUType : (Tryz.prog.globals[0]?).map (·.type) = some 76 := by kernel_rfl
theorem gN : Tryz.prog.globalNamed "loop.example/g00299/impl.errNoRoom" = some 1 := by kernel_rfl
theorem gNType : (Tryz.prog.globals[1]?).map (·.type) = some 76 := by kernel_rfl
theorem ge_of_laid {W : World} (h : laidMetH Tryz.prog [("errors.errorType", Rows.laid_errors_errorType), ("loop.example/g00299/impl.errNoRoom", Rows.laid_loop_example_g00299_impl_errNoRoom), ("loop.example/g00299/impl.errUnwanted", Rows.laid_loop_example_g00299_impl_errUnwanted)] W) : ∃ a0 a1, Ge W a0 a1 := by
  have h' : laidMet Tryz.prog [("loop.example/g00299/impl.errNoRoom", Rows.laid_loop_example_g00299_impl_errNoRoom), ("loop.example/g00299/impl.errUnwanted", Rows.laid_loop_example_g00299_impl_errUnwanted)] W ∧ handlesMet Tryz.prog [("errors.errorType", Rows.laid_errors_errorType)] W := h
  obtain ⟨name, u, ty, e1, e2, e3, e4, e5⟩ := h'.2 _ (List.mem_singleton.2 rfl)
  have en : name = [101, 114, 114, 111, 114] := (Option.some.inj e1).symm
  subst en
  obtain rfl := Option.some.inj (gRt.symm.trans e2)
  have hm : ty ∈ (List.range 295).filter fun t => Tryz.prog.rowNamed t [101, 114, 114, 111, 114] := List.mem_filter.2 ⟨List.mem_range.2 (by rw [← gSize]; exact e3), e4⟩
  rw [gOne] at hm
  obtain rfl := List.mem_singleton.1 hm
  have hh : typeHandle Tryz.prog 76 = .pointer (some ⟨4, 76, none⟩) := by kernel_rfl
  rw [hh] at e5
  obtain ⟨a0, a1, s0, s1, c0, c1, t0, t1, hv0, hv1, hc0, hs0, hz0, hc1, hs1, hz1, hne, hb0, hb1⟩ := laid_sentinels2 h'.1 gN gNType gU gUType Tryz.underlying76 gRow Tryz.underlying262 Tryz.underlying283 rfl rfl Tryz.underlying9 (by kernel_rfl) (by kernel_rfl)
  refine ⟨a1, a0, ?_, ?_, ?_, fun e => hne e.symm, ⟨c1, t1, hb1⟩, c0, t0, hb0⟩
  · simpa using World.var?_cell gU hv1 0
  · simpa using World.var?_cell gN hv0 0
  · simpa using World.var?_cell gE e5 0
end Go.Proofs.YtfamiehfpmjljaaGreatDoor

namespace Go.Proofs.YtfamiehfpmjljaaGreatDoor.fnFetches
open Go.ChangeShapes Go.WideShapes Go.ChangeAt Go.RowKit Go.Maps
set_option linter.unusedVariables false
set_option maxHeartbeats 400000 in
theorem lwBig_no (a : Option Addr) (cap : Nat) (n : Nat) (w : World) (h : n ≤ 1048576) :
    Calls Tryz.prog 9 #[.slice a n cap] w fun e w' => e = .returned (.bool false) ∧ w' = w := by
  have hb : ¬ (1048576 : Int) < (n : Int) := by omega
  go_enter Tryz.func9, Tryz.ntmps9
  go_wp2
  go_ret
  exact ⟨rfl, rfl⟩
set_option maxHeartbeats 400000 in
theorem lwBig_yes (a : Option Addr) (cap : Nat) (n : Nat) (w : World) (h : 1048576 < n) (h2 : n ≤ maxLen) :
    Calls Tryz.prog 9 #[.slice a n cap] w fun e w' => e = .returned (.bool true) ∧ w' = w := by
  have hb : (1048576 : Int) < (n : Int) := by omega
  go_enter Tryz.func9, Tryz.ntmps9
  go_wp2
  go_ret
  exact ⟨rfl, rfl⟩
theorem conv_rd {w : World} {a : Option Addr} {c : Nat} {ds : List Int} (h : Reads .u8 w a ds) (h0 : ds ≠ []) :
    Sem.run Tryz.prog (convert 22 9 (.slice a ds.length c)) w = .ok (.string (strOfNums ds)) w := by
  obtain ⟨b, off, rfl, hb, hc⟩ := h h0
  exact run_convert_bytes_arg (P := Tryz.prog) w 22 5 Tryz.underlying22 Tryz.underlying5 b off ds.length c ds rfl hc 9 Tryz.underlying9
theorem one_iff {d : Int} {ds : List Int} (hok : okD d) (h1 : 0 < ds.length) (h8 : ds.length ≤ 2) : (digest ds == d) = true ↔ oneFault d ds = 0 := by
  constructor
  · intro h
    have h : digest ds = d := by simpa using h
    unfold oneFault
    rw [if_pos hok, if_pos ⟨by omega, by omega⟩, if_pos h]
  · intro h
    simpa using (oneFault_zero h).2.2
theorem one_none {d : Int} {ds : List Int} (h1 : ¬ 0 < ds.length) : false = true ↔ oneFault d ds = 0 := by
  constructor
  · intro h; cases h
  · intro h; have := (oneFault_zero h).2.1; omega
set_option maxRecDepth 100000 in
set_option maxHeartbeats 25600000 in
theorem walk (HBent : BentC) (w : World) (e0 e1 : Addr) (hg : Ge w e0 e1) (a0 : Option Addr) (cap0 : Nat) (zs : List Int) (h : Reads .u8 w a0 zs) (hu : U8 zs) (hmax : zs.length ≤ maxLen) :
    Calls Tryz.prog 3 #[.slice a0 zs.length cap0] w fun e w' => e = .returned (.bool true) ∧ Below w.heap.size w w' := by
  by_cases hbig : 1048576 < zs.length
  · go_enter Tryz.func3, Tryz.ntmps3
    go_wp2_with fail
    refine (lwBig_yes _ _ _ _ hbig hmax).mono ?_
    rintro e w1 ⟨rfl, rfl⟩
    go_wp2_with fail
    go_ret
    exact ⟨rfl, Below.refl _ _⟩
  · have hl : zs.length ≤ 1048576 := by omega
    have HR := hide h
    have HU := hide hu
    have HG := hide hg
    clear h hu hbig hmax hg
    go_enter Tryz.func3, Tryz.ntmps3
    go_wp2_with fail
    refine (lwBig_no _ _ _ _ hl).mono ?_
    rintro e w0 ⟨rfl, rfl⟩
    go_wp2_with fail
    refine (drawHearFetch_e HBent a0 cap0 zs _ HR.out HU.out hl).mono ?_
    rintro e w1 ⟨wa, wk, W, fa, fc, F, ca, cc, n, D, P, d, av, ac, ds, rfl, hr1, hfc, hsm, hd1, hU, hdl, hb1⟩
    have hcase := heard W F D P n d ds hsm hU (by omega)
    have A1 := hide (below_alloc w1 (.cells #[.slice wa W.length wk, .slice fa F.length fc, .slice ca n cc] 28))
    have X1 := hide (Bx3.new w1 (.slice wa W.length wk) (.slice fa F.length fc) (.slice ca n cc) 28)
    have F1 := hide (hr1.below A1.out)
    have D1 := hide (hd1.below A1.out)
    have B1 := hide (below_next hb1 A1.out)
    have HB1 := hide hb1.size
    have UD := hide hU
    have HSm := hide hsm
    have HZ1 : Hid (w1.heap.size < (w1.alloc (.cells #[.slice wa W.length wk, .slice fa F.length fc, .slice ca n cc] 28)).heap.size) := hide (by simp)
    clear hr1 hd1 hb1 hU hsm HR
    rcases hcase with ⟨q, W', F', D', P', n', hq, hsp, him⟩ | ⟨i, t, W', F', D', P', n', hN, hi, hd, hok, ht, hN', hle, hgood, hbad, him⟩
    · have HI := hide (him wa wk fa fc ca cc av ac _ e0 e1 (HG.out.below B1.out) F1.out D1.out)
      have HSp := hide (fun (u : World) (hb : Below (w1.alloc (.cells #[.slice wa W.length wk, .slice fa F.length fc, .slice ca n cc] 28)).heap.size (w1.alloc (.cells #[.slice wa W.length wk, .slice fa F.length fc, .slice ca n cc] 28)) u) => hsp wa wk fa fc ca cc av ac u (F1.out.below hb) hfc (D1.out.below hb))
      unfold fetV at HI HSp
      have hne : (q != 0) = true := by simpa using hq
      clear hsp him hq
      obtain ⟨⟨t0, t1, t2⟩, -, -, -⟩ := X1.out
      go_wp2_with fail
      clear t0 t1 t2
      generalize w1.alloc (.cells #[.slice wa W.length wk, .slice fa F.length fc, .slice ca n cc] 28) = W1 at *
      obtain ⟨fb, hfb⟩ : ∃ fb, fb = w1.heap.size := ⟨_, rfl⟩
      rw [← hfb] at X1 HZ1 ⊢
      clear hfb A1
      refine HI.out.mono ?_
      rintro e w2 hres
      obtain ⟨x1, x2, x3, x4, x5, x6, rfl, hg2, hb2⟩ := hres.gf
      have A2 := hide (below_alloc w2 (.cells #[.int .i64 q, .slice x1 W'.length x2, .slice x3 F'.length x4, .slice x5 n' x6] 32))
      have Q2 := hide (Bx4.new w2 (.int .i64 q) (.slice x1 W'.length x2) (.slice x3 F'.length x4) (.slice x5 n' x6) 32)
      have X2 := hide ((X1.out.below hb2).below A2.out)
      have BB := hide (below_next hb2 A2.out)
      clear hres hg2 hb2 HI
      obtain ⟨⟨t0, t1, t2⟩, -, -, -⟩ := X2.out
      obtain ⟨⟨m0, m1, m2, m3⟩, -, -, -, -⟩ := Q2.out
      go_upto_region 6 with fail
      clear t0 t1 t2 m0 m1 m2 m3
      generalize w2.alloc (.cells #[.int .i64 q, .slice x1 W'.length x2, .slice x3 F'.length x4, .slice x5 n' x6] 32) = W2 at *
      obtain ⟨rb, hrb⟩ : ∃ rb, rb = w2.heap.size := ⟨_, rfl⟩
      rw [← hrb] at Q2 ⊢
      clear hrb A2
      have KB : Hid (∀ u : World, Below W2.heap.size W2 u → (u.cell? ⟨fb, 0, none⟩ = some (.slice wa W.length wk) ∧ u.cell? ⟨fb, 1, none⟩ = some (.slice fa F.length fc) ∧ u.cell? ⟨fb, 2, none⟩ = some (.slice ca n cc)) ∧ u.cell? ⟨rb, 0, none⟩ = some (.int .i64 q)) := hide (fun u hb => ⟨(X2.out.below hb).1, (Q2.out.below hb).1.1⟩)
      obtain ⟨⟨t0, t1, t2⟩, m0⟩ := KB.out W2 (Below.refl _ _)
      go_region_held3 (fun u => (u.cell? ⟨fb, 0, none⟩ = some (.slice wa W.length wk) ∧ u.cell? ⟨fb, 1, none⟩ = some (.slice fa F.length fc) ∧ u.cell? ⟨fb, 2, none⟩ = some (.slice ca n cc)) ∧ u.cell? ⟨rb, 0, none⟩ = some (.int .i64 q)) (first | exact KB.out _ BB7.out | exact KB.out _ (Below.refl _ _).drew | go_keep)
        ((go_at_call 12; refine (HSp.out _ (BB.out.trans ((Below.refl _ _).drew.mono BB.out.size))).mono ?_; rintro e w7 hres; obtain ⟨y1, y2, y3, y4, y5, y6, rfl, hg7, hb7⟩ := hres.gf; have BB7 := hide ((Below.refl W2.heap.size W2).drew.trans hb7); have hfd : ∀ u : World, (Instr.field 32 (.agg #[.int .i64 q, .slice y1 W'.length y2, .slice y3 F'.length y4, .slice y5 n' y6]) 0).run Tryz.prog u = .ok (.int .i64 q) u := (fun _ => by kernel_rfl); clear hres hg7 hb7))
      go_wp2_with fail
      go_ret
      exact ⟨by simp, below_next B1.out (BB.out.trans (BB7.out.mono BB.out.size))⟩
    · have HI := hide (him wa wk fa fc ca cc av ac _ e0 e1 (HG.out.below B1.out) F1.out D1.out)
      unfold fetV at HI
      have NN := hide hN
      have NN' := hide hN'
      have HH := hide (And.intro hgood hbad)
      have HD := hide hd
      have HFW : Hid (w0.heap.size ≤ w1.heap.size) := hide HB1.out
      clear hN hN' hgood hbad hd him
      obtain ⟨⟨t0, t1, t2⟩, -, -, -⟩ := X1.out
      go_wp2_with fail
      clear t0 t1 t2
      generalize w1.alloc (.cells #[.slice wa W.length wk, .slice fa F.length fc, .slice ca n cc] 28) = W1 at *
      obtain ⟨fb, hfb⟩ : ∃ fb, fb = w1.heap.size := ⟨_, rfl⟩
      rw [← hfb] at X1 HZ1 HFW ⊢
      clear hfb A1
      refine HI.out.mono ?_
      rintro e w2 hres
      obtain ⟨x1, x2, x3, x4, x5, x6, rfl, hg2, hb2⟩ := hres.gf
      have A2 := hide (below_alloc w2 (.cells #[.int .i64 0, .slice x1 W'.length x2, .slice x3 F'.length x4, .slice x5 n' x6] 32))
      have Q2 := hide (Bx4.new w2 (.int .i64 0) (.slice x1 W'.length x2) (.slice x3 F'.length x4) (.slice x5 n' x6) 32)
      have X2 := hide ((X1.out.below hb2).below A2.out)
      have BB := hide (below_next hb2 A2.out)
      have G2 := hide (hg2.rd.below A2.out)
      have F2 := hide (F1.out.below BB.out)
      have D2 := hide (D1.out.below BB.out)
      have B2 := hide (below_next B1.out BB.out)
      clear hres hg2 hb2 HI X1 F1 D1
      obtain ⟨⟨t0, t1, t2⟩, -, -, -⟩ := X2.out
      obtain ⟨⟨m0, m1, m2, m3⟩, -, -, -, -⟩ := Q2.out
      go_upto_region 7 with fail
      clear t0 t1 t2 m0 m1 m2 m3
      generalize w2.alloc (.cells #[.int .i64 0, .slice x1 W'.length x2, .slice x3 F'.length x4, .slice x5 n' x6] 32) = W2 at *
      obtain ⟨rb, hrb⟩ : ∃ rb, rb = w2.heap.size := ⟨_, rfl⟩
      rw [← hrb] at Q2 ⊢
      clear hrb A2
      go_cut [7] from 36 to 49 (fun v7 wk' => ∃ g : Bool, v7 = .bool g ∧ Hid (g = true ↔ oneFault d ds = 0) ∧ wk' = W2)
      case first =>
        by_cases h0 : 0 < ds.length
        · have h1 : (0 : Int) < (ds.length : Int) := by omega
          have h1d : decide ((0 : Int) < (ds.length : Int)) = true := decide_eq_true h1
          have h8 : (ds.length : Int) ≤ 8 := by omega
          have h8d : decide ((ds.length : Int) ≤ 8) = true := decide_eq_true h8
          have HIFF := hide (one_iff hok h0 hdl)
          generalize hdg : digest ds = dg at *
          have HDG := hide hdg
          clear hdg
          go_wp2_with fail
          refine (implDigestOf_any av ac ds W2 D2.out UD.out (by omega)).mono ?_
          rintro e w3 ⟨rfl, rfl⟩
          rw [HDG.out]
          go_wp2_with fail
          go_meet
          case rel => exact ⟨_, rfl, HIFF, rfl⟩
        · have h1 : ¬ (0 : Int) < (ds.length : Int) := by omega
          have h1d : decide ((0 : Int) < (ds.length : Int)) = false := decide_eq_false h1
          have HIFF := hide (one_none (d := d) h0)
          go_wp2_with fail
          go_meet
          case rel => exact ⟨false, rfl, HIFF, rfl⟩
      case rest =>
        obtain ⟨g, rfl, HIFF, hw2⟩ := hcut
        have hw2 := hw2.symm
        subst hw2
        have hn' : n' ≤ 1048576 := by have := NN'.out.right.many; omega
        have hWl' : W'.length ≤ 1048576 := by have := NN'.out.fit.wmany; omega
        have hFl' : F'.length ≤ 1048576 := by have := NN'.out.fit.fmany; omega
        go_upto_region 8 with fail
        go_cut [8] from 50 to 54 (fun v8 wk' => ∃ (cb : Nat) (qc : Int) (xa : Option Addr) (xc : Nat) (bs : List Int), v8 = .pointer (some ⟨cb, 0, none⟩) ∧ Hid (Two wk' cb (.int .i64 qc) (.slice xa bs.length xc)) ∧ Hid (Reads .u8 wk' xa bs) ∧ ((g = true ∧ qc = 0 ∧ bs = ds) ∨ (g = false ∧ qc = 4)) ∧ Hid (Below W2.heap.size W2 wk'))
        case first =>
          obtain ⟨⟨m0, m1, m2, m3⟩, -, -, -, -⟩ := Q2.out
          by_cases hO : oneFault d ds = 0
          · obtain ⟨jj, hjj, hDj, hPj⟩ := HH.out.1 hO
            have HGT : Hid (g = true) := hide (HIFF.out.2 hO)
            have HC := hide (implChunkFor_yes x5 x6 n' jj D' P' d W2 G2.out.chunks hn' NN'.out.small (fault_right NN'.out.right) (okD_wf hok) hjj hDj)
            rw [hPj] at HC
            clear hO hDj hPj hjj
            go_wp2_with fail
            refine HC.out.mono ?_
            rintro e w3 ⟨xa, xc, rfl, hgb, hb3⟩
            have A3 := hide (below_alloc w3 (.cells #[.int .i64 0, .slice xa ds.length xc] 36))
            have Y3 := hide (Two.new w3 (.int .i64 0) (.slice xa ds.length xc) 36)
            have E3 := hide ((ownsRow_own hgb.1 rfl).reads.below A3.out)
            have BB3 := hide (below_next hb3 A3.out)
            clear hgb hb3
            go_wp2_with fail
            go_meet
            case rel => exact ⟨w3.heap.size, 0, xa, xc, ds, rfl, Y3, E3, .inl ⟨HGT.out, rfl, rfl⟩, BB3⟩
          · have HGF : Hid (g = false) := hide (by
              cases g with
              | false => rfl
              | true => exact absurd (HIFF.out.1 rfl) hO)
            have HC := hide (implChunkFor_no x5 x6 n' D' P' d W2 G2.out.chunks hn' NN'.out.small (fault_right NN'.out.right) (okD_wf hok) (HH.out.2 hO))
            clear hO
            go_wp2_with fail
            refine HC.out.mono ?_
            rintro e w3 ⟨xa, xc, rfl, hgb, hb3⟩
            have A3 := hide (below_alloc w3 (.cells #[.int .i64 4, .slice xa ([] : List Int).length xc] 36))
            have Y3 := hide (Two.new w3 (.int .i64 4) (.slice xa ([] : List Int).length xc) 36)
            have E3 := hide ((ownsRow_own hgb.1 rfl).reads.below A3.out)
            have BB3 := hide (below_next hb3 A3.out)
            clear hgb hb3
            go_wp2_with fail
            go_meet
            case rel => exact ⟨w3.heap.size, 4, xa, xc, [], rfl, Y3, E3, .inr ⟨HGF.out, rfl⟩, BB3⟩
        case rest =>
          obtain ⟨cb, qc, xa, xc, bs, rfl, Y3, E3, hcs, BB3⟩ := hcut
          obtain ⟨W3, hW3⟩ : ∃ x, x = wc := ⟨_, rfl⟩
          subst hW3
          have X3 := hide (X2.out.below BB3.out)
          have Q3 := hide (Q2.out.below BB3.out)
          have G3 := hide (G2.out.below BB3.out)
          have F3 := hide (F2.out.below BB3.out)
          have D3 := hide (D2.out.below BB3.out)
          have B3 := hide (below_next B2.out BB3.out)
          clear X2 Q2 G2 F2 D2 B2 BB3
          have HFF := hide (implFetchFault_any x1 x2 W' x3 x4 F' x5 x6 n' D' P' W3 G3.out hn' NN'.out.small hWl' hFl')
          rw [NN'.out.zero] at HFF
          unfold fetV at HFF
          have hle1 : ¬ (W.length : Int) < (W'.length : Int) := by omega
          have hled : decide ((W.length : Int) < (W'.length : Int)) = false := decide_eq_false hle1
          go_upto_region 9 with fail
          go_cut [86] from 55 to 86 (fun v86 wk' => v86 = .bool false ∧ Hid (Below W3.heap.size W3 wk'))
          case first =>
            obtain ⟨⟨m0, m1, m2, m3⟩, -, -, -, -⟩ := Q3.out
            obtain ⟨⟨t0, t1, t2⟩, -, -, -⟩ := X3.out
            obtain ⟨y0, y1⟩ := Y3.out
            rcases hcs with ⟨rfl, rfl, rfl⟩ | ⟨rfl, rfl⟩
            · have HO := hide (HIFF.out.1 rfl)
              go_wp2_with fail
              clear m0 m1 m2 m3 t0 t1 t2 y0 y1
              refine HFF.out.mono ?_
              rintro e w4 ⟨rfl, hb4⟩
              obtain ⟨⟨m0, m1, m2, m3⟩, -, -, -, -⟩ := Q3.out.below hb4
              obtain ⟨⟨t0, t1, t2⟩, -, -, -⟩ := X3.out.below hb4
              obtain ⟨y0, y1⟩ := Y3.out.below hb4
              have BB4 := hide hb4
              have hds0 : bs ≠ [] := by intro e; have := (oneFault_zero HO.out).2.1; simp [e] at this
              have hc1 := conv_rd (c := xc) (E3.out.below hb4) hds0
              have hc2 := conv_rd (c := ac) (D3.out.below hb4) hds0
              clear hb4
              go_wp2_with fail
              go_meet
              case rel => exact ⟨by simpa using hle, BB4⟩
            · go_wp2_with fail
              clear m0 m1 m2 m3 t0 t1 t2 y0 y1
              refine HFF.out.mono ?_
              rintro e w4 ⟨rfl, hb4⟩
              obtain ⟨⟨m0, m1, m2, m3⟩, -, -, -, -⟩ := Q3.out.below hb4
              obtain ⟨⟨t0, t1, t2⟩, -, -, -⟩ := X3.out.below hb4
              obtain ⟨y0, y1⟩ := Y3.out.below hb4
              have BB4 := hide hb4
              clear hb4
              go_wp2_with fail
              go_meet
              case rel => exact ⟨by simpa using hle, BB4⟩
          case rest =>
            obtain ⟨rfl, BB4⟩ := hcut
            obtain ⟨W4, hW4⟩ : ∃ x, x = wc := ⟨_, rfl⟩
            subst hW4
            have X4 := hide (X3.out.below BB4.out)
            have F4 := hide (F3.out.below BB4.out)
            have B4 := hide (below_next B3.out BB4.out)
            clear X3 Q3 G3 F3 D3 B3 BB4 HFF Y3 E3 HIFF hcs HH
            obtain ⟨⟨t0, t1, t2⟩, -, -, -⟩ := X4.out
            have A5 := hide (below_alloc W4 (.cells #[.slice wa W.length wk, .slice fa F.length fc, .slice ca n cc] 28))
            have Z5 := hide (Bx3.new W4 (.slice wa W.length wk) (.slice fa F.length fc) (.slice ca n cc) 28)
            have HZ5 : Hid ((W4.alloc (.cells #[.slice wa W.length wk, .slice fa F.length fc, .slice ca n cc] 28)).heap.size = W4.heap.size + 1) := hide (by simp)
            have X5 := hide (X4.out.below A5.out)
            have F5 := hide (F4.out.below A5.out)
            have B5 := hide (below_next B4.out A5.out)
            have hw12 := NN.out.fit.wmany
            have hf40 := NN.out.fit.fmany
            have hel := erase_len hi
            have HEL := hide hel
            go_upto_block 0 with fail
            clear t0 t1 t2 hel
            generalize W4.alloc (.cells #[.slice wa W.length wk, .slice fa F.length fc, .slice ca n cc] 28) = W5 at *
            obtain ⟨ab, hab⟩ : ∃ ab, ab = W4.heap.size := ⟨_, rfl⟩
            rw [← hab] at Z5 HZ5 ⊢
            have hfa : fb < ab := by have := X4.out.lt; omega
            have hwa : w0.heap.size ≤ fb ∧ w0.heap.size < ab := by have := B4.out.size; have := HFW.out; omega
            clear hab X4 F4 B4 A5
            go_cut [9, 10, 11] from 88 to 106 (fun v9 v10 v11 wk' => v9 = .pointer (some ⟨ab, 0, none⟩) ∧ ∃ (ya : Option Addr) (yk : Nat) (za : Option Addr) (zc : Nat) (da : Option Addr) (dc : Nat), Hid (Bx3 wk' ab (.slice ya (W.eraseIdx i).length yk) (.slice za (F ++ [d]).length zc) (.slice da n dc)) ∧ Hid (RdF wk' ya (W.eraseIdx i) za (F ++ [d]) da D P n) ∧ ¬ 40 ≤ F.length ∧ Hid (Bx3 wk' fb (.slice wa W.length wk) (.slice fa F.length fc) (.slice ca n cc)) ∧ Hid (Below w0.heap.size w0 wk'))
            case first =>
              go_wp2_with fail
              go_loopw [10, 11] (fun v10 v11 wr => ∃ (k : Nat) (ya : Option Addr) (yk : Nat) (W1 : List Wn) (za : Option Addr) (zc : Nat) (F1 : List Int) (da : Option Addr) (dc : Nat), k ≤ 3 ∧ v10 = .int .i64 k ∧ Hid (Bx3 wr ab (.slice ya W1.length yk) (.slice za F1.length zc) (.slice da n dc)) ∧ Hid (RdF wr ya W1 za F1 da D P n) ∧ Hid (Nice W1 F1 D P n) ∧ Hid (AtL W F i d t k W1 F1) ∧ Hid (Bx3 wr fb (.slice wa W.length wk) (.slice fa F.length fc) (.slice ca n cc)) ∧ Hid (Below w0.heap.size w0 wr)) (fun v10 _ _ => 3 - (intOf v10).toNat)
              case atStart => exact ⟨0, wa, wk, W, fa, fc, F, ca, cc, by omega, rfl, Z5, F5, NN, hide (.inl ⟨rfl, by simpa using HD.out, by have := ht.2; simpa using this, rfl, rfl⟩), X5, B5⟩
              case round =>
                obtain ⟨k, ya, yk, W1, za, zc, F1, da, dc, hk, rfl, Z, RF, N1, AL, X, BW⟩ := hrel
                clear Z5 F5 X5 B5 HZ5
                have hn1 : n ≤ 1048576 := by have := NN.out.right.many; omega
                have hWl1 : W1.length ≤ 1048576 := by have := N1.out.fit.wmany; omega
                have hFl1 : F1.length ≤ 1048576 := by have := N1.out.fit.fmany; omega
                obtain ⟨⟨t0, t1, t2⟩, -, -, -⟩ := Z.out
                by_cases hlt : k < 3
                · have hk1 : (k : Int) < 3 := by omega
                  rcases AL.out with ⟨hl1, hg1, ht1, hF1, he1⟩ | ⟨hW1, hF1, h40⟩
                  · subst hF1
                    have hi1 : i < W1.length := by omega
                    have hoth := want_other N1.out.fit.wone hi1 (by rw [hg1])
                    have h0 : 0 ≤ t + k := by have := ht.1; omega
                    by_cases h3 : t + k + 1 < 3
                    · have HL := hide (implLoseFetch_more ya yk W1 za zc F1 da dc n D P d wr RF.out hn1 N1.out.small hWl1 hFl1 N1.out.zero N1.out.right i (t + k) hi1 hg1 hoth h0 h3)
                      unfold fetV at HL
                      have NX := hide (show Nice (W1.set i (d, t + k + 1)) F1 D P n from ⟨N1.out.right, fit_set N1.out.fit hi1 hg1 (by omega) h3, N1.out.u8⟩)
                      have AX : Hid (AtL W F1 i d t (k + 1) (W1.set i (d, t + k + 1)) F1) := hide (.inl ⟨by simp [hl1], by rw [getD_set W1 (0, 0) _ hi1, if_pos rfl]; simp [Int.add_assoc], by simp; omega, rfl, by rw [erase_set]; exact he1⟩)
                      obtain ⟨V1, hV1⟩ : ∃ V1 : List Wn, V1 = W1.set i (d, t + k + 1) := ⟨_, rfl⟩
                      rw [← hV1] at HL NX AX
                      clear hoth hg1 he1 hl1 hV1
                      go_wp2_with fail
                      clear t0 t1 t2
                      refine HL.out.mono ?_
                      rintro e w6 hres
                      obtain ⟨l1, l2, l3, l4, l5, l6, rfl, hg6, hb6⟩ := hres.gf
                      have A6 := hide (below_alloc w6 (.cells #[.int .i64 0, .slice l1 (V1).length l2, .slice l3 (F1).length l4, .slice l5 n l6] 32))
                      have Q6 := hide (Bx4.new w6 (.int .i64 0) (.slice l1 (V1).length l2) (.slice l3 (F1).length l4) (.slice l5 n l6) 32)
                      have Z6 := hide ((Z.out.below hb6).below A6.out)
                      have X6 := hide ((X.out.below hb6).below A6.out)
                      have G6 := hide (hg6.below A6.out)
                      have B6 := hide (below_next (below_next BW.out hb6) A6.out)
                      have hz6 := hb6.size
                      have hal := Z.out.lt
                      clear hres hg6 hb6 HL
                      obtain ⟨⟨m0, m1, m2, m3⟩, -, -, -, -⟩ := Q6.out
                      obtain ⟨⟨t0, t1, t2⟩, t3, t4, t5⟩ := Z6.out
                      have HZ6 : Hid (w6.heap.size < (w6.alloc (.cells #[.int .i64 0, .slice l1 (V1).length l2, .slice l3 (F1).length l4, .slice l5 n l6] 32)).heap.size) := hide (by simp)
                      go_upto_region 16 with fail
                      generalize w6.alloc (.cells #[.int .i64 0, .slice l1 (V1).length l2, .slice l3 (F1).length l4, .slice l5 n l6] 32) = W6 at *
                      obtain ⟨lb, hlb⟩ : ∃ lb, lb = w6.heap.size := ⟨_, rfl⟩
                      rw [← hlb] at Q6 m0 m1 m2 m3 ⊢
                      clear hlb
                      go_wp2_with fail
                      go_roundw
                      case rel =>
                        have hk9 := Kept.threeF W6 ab (.slice l1 (V1).length l2) (.slice l3 (F1).length l4) (.slice l5 n l6)
                        refine ⟨k + 1, l1, l2, V1, l3, l4, F1, l5, l6, by omega, by go_num, hide (Z6.out.setAll _ _ _), hide (G6.out.kept hk9 (fun b h1 h2 e => by omega)).rd, NX, hide AX.out, hide (X6.out.kept hk9 (by omega)), hide (B6.out.trans (hk9.below (B := w0.heap.size) B6.out.size (fun q hq e => by omega)))⟩
                      case measure => simp [intOf]; omega
                    · by_cases h40 : 40 ≤ F1.length
                      · have HL := hide (implLoseFetch_full ya yk W1 za zc F1 da dc n D P d wr e0 e1 (HG.out.below BW.out) RF.out hn1 N1.out.small hWl1 hFl1 N1.out.zero N1.out.right i (t + k) hi1 hg1 hoth h0 (by omega) h3 h40)
                        unfold fetV at HL
                        have hfe : ((F1.length : Int) == 40) = true := by simp; omega
                        clear hoth hg1 he1 hl1
                        go_wp2_with fail
                        clear t0 t1 t2
                        refine HL.out.mono ?_
                        rintro e w6 hres
                        obtain ⟨l1, l2, l3, l4, l5, l6, rfl, hg6, hb6⟩ := hres.gf
                        have A6 := hide (below_alloc w6 (.cells #[.int .i64 2, .slice l1 0 l2, .slice l3 0 l4, .slice l5 0 l6] 32))
                        obtain ⟨⟨t0, t1, t2⟩, -, -, -⟩ := (X.out.below hb6).below A6.out
                        have B6 := hide (below_next (below_next BW.out hb6) A6.out)
                        clear hres hg6 hb6 HL
                        go_wp2_with fail
                        go_ret
                        exact ⟨by first | rfl | simpa using hfe | simp, B6.out⟩
                      · have HL := hide (implLoseFetch_last ya yk W1 za zc F1 da dc n D P d wr e0 e1 (HG.out.below BW.out) RF.out hn1 N1.out.small hWl1 hFl1 N1.out.zero N1.out.right i (t + k) hi1 hg1 hoth h0 (by omega) h3 h40)
                        unfold fetV at HL
                        have NX := hide (show Nice (W1.eraseIdx i) (F1 ++ [d]) D P n from ⟨N1.out.right, fit_fail N1.out.fit hi1 hg1 h40, N1.out.u8⟩)
                        have AX : Hid (AtL W F1 i d t (k + 1) (W1.eraseIdx i) (F1 ++ [d])) := hide (.inr ⟨he1, rfl, h40⟩)
                        obtain ⟨V1, hV1⟩ : ∃ V1 : List Wn, V1 = W1.eraseIdx i := ⟨_, rfl⟩
                        obtain ⟨U1, hU1⟩ : ∃ U1 : List Int, U1 = F1 ++ [d] := ⟨_, rfl⟩
                        rw [← hV1, ← hU1] at HL NX AX
                        clear hoth hg1 he1 hl1 hV1 hU1
                        go_wp2_with fail
                        clear t0 t1 t2
                        refine HL.out.mono ?_
                        rintro e w6 hres
                        obtain ⟨l1, l2, l3, l4, l5, l6, rfl, hg6, hb6⟩ := hres.gf
                        have A6 := hide (below_alloc w6 (.cells #[.int .i64 0, .slice l1 (V1).length l2, .slice l3 (U1).length l4, .slice l5 n l6] 32))
                        have Q6 := hide (Bx4.new w6 (.int .i64 0) (.slice l1 (V1).length l2) (.slice l3 (U1).length l4) (.slice l5 n l6) 32)
                        have Z6 := hide ((Z.out.below hb6).below A6.out)
                        have X6 := hide ((X.out.below hb6).below A6.out)
                        have G6 := hide (hg6.below A6.out)
                        have B6 := hide (below_next (below_next BW.out hb6) A6.out)
                        have hz6 := hb6.size
                        have hal := Z.out.lt
                        clear hres hg6 hb6 HL
                        obtain ⟨⟨m0, m1, m2, m3⟩, -, -, -, -⟩ := Q6.out
                        obtain ⟨⟨t0, t1, t2⟩, t3, t4, t5⟩ := Z6.out
                        have HZ6 : Hid (w6.heap.size < (w6.alloc (.cells #[.int .i64 0, .slice l1 (V1).length l2, .slice l3 (U1).length l4, .slice l5 n l6] 32)).heap.size) := hide (by simp)
                        go_upto_region 16 with fail
                        generalize w6.alloc (.cells #[.int .i64 0, .slice l1 (V1).length l2, .slice l3 (U1).length l4, .slice l5 n l6] 32) = W6 at *
                        obtain ⟨lb, hlb⟩ : ∃ lb, lb = w6.heap.size := ⟨_, rfl⟩
                        rw [← hlb] at Q6 m0 m1 m2 m3 ⊢
                        clear hlb
                        go_wp2_with fail
                        go_roundw
                        case rel =>
                          have hk9 := Kept.threeF W6 ab (.slice l1 (V1).length l2) (.slice l3 (U1).length l4) (.slice l5 n l6)
                          refine ⟨k + 1, l1, l2, V1, l3, l4, U1, l5, l6, by omega, by go_num, hide (Z6.out.setAll _ _ _), hide (G6.out.kept hk9 (fun b h1 h2 e => by omega)).rd, NX, hide AX.out, hide (X6.out.kept hk9 (by omega)), hide (B6.out.trans (hk9.below (B := w0.heap.size) B6.out.size (fun q hq e => by omega)))⟩
                        case measure => simp [intOf]; omega
                  · have hno : ∀ q, q < W1.length → (W1.getD q (0, 0)).1 ≠ d := fun q hq e => by
                      have hm := getD_mem (0, 0) hq
                      subst hW1
                      exact erase_not NN.out.fit.wone hi (by rw [HD.out]) hm e
                    have HL := hide (implLoseFetch_none ya yk W1 za zc F1 da dc n D P d wr e0 e1 (HG.out.below BW.out) RF.out hn1 N1.out.small hWl1 hFl1 N1.out.zero N1.out.right hno)
                    unfold fetV at HL
                    have HE1 := hide (And.intro hW1 hF1)
                    clear hno hW1 hF1
                    go_wp2_with fail
                    clear t0 t1 t2
                    refine HL.out.mono ?_
                    rintro e w6 hres
                    obtain ⟨l1, l2, l3, l4, l5, l6, rfl, hg6, hb6⟩ := hres.gf
                    have A6 := hide (below_alloc w6 (.cells #[.int .i64 4, .slice l1 ([] : List Wn).length l2, .slice l3 ([] : List Int).length l4, .slice l5 0 l6] 32))
                    have Z6 := hide ((Z.out.below hb6).below A6.out)
                    have X6 := hide ((X.out.below hb6).below A6.out)
                    have R6 := hide ((RF.out.below hb6).below A6.out)
                    have B6 := hide (below_next (below_next BW.out hb6) A6.out)
                    clear hres hg6 hb6 HL
                    go_wp2_with fail
                    go_meet
                    case rel =>
                      obtain ⟨hW1, hF1⟩ := HE1.out
                      subst hW1 hF1
                      exact ⟨rfl, ya, yk, za, zc, da, dc, Z6, R6, h40, X6, B6⟩
                · have hk1 : ¬ (k : Int) < 3 := by omega
                  rcases AL.out with ⟨hl1, hg1, ht1, hF1, he1⟩ | ⟨hW1, hF1, h40⟩
                  · exact absurd ht1 (by have := ht.1; omega)
                  · have HE1 := hide (And.intro hW1 hF1)
                    clear hW1 hF1
                    go_wp2_with fail
                    go_meet
                    case rel =>
                      obtain ⟨hW1, hF1⟩ := HE1.out
                      subst hW1 hF1
                      exact ⟨rfl, ya, yk, za, zc, da, dc, Z, RF, h40, X, BW⟩
            case rest =>
              obtain ⟨rfl, ya, yk, za, zc, da, dc, Z7, R7, h40, X7, B7⟩ := hcut
              obtain ⟨W7, hW7⟩ : ∃ x, x = wc := ⟨_, rfl⟩
              subst hW7
              have NL : Hid (Nice (W.eraseIdx i) (F ++ [d]) D P n) := hide ⟨NN.out.right, fit_fail NN.out.fit hi HD.out h40, NN.out.u8⟩
              have hfl : (F ++ [d]).length = F.length + 1 := by simp
              have HFL := hide hfl
              obtain ⟨V, hV⟩ : ∃ V : List Wn, V = W.eraseIdx i := ⟨_, rfl⟩
              obtain ⟨U, hU⟩ : ∃ U : List Int, U = F ++ [d] := ⟨_, rfl⟩
              have hdU : d ∈ U := by rw [hU]; simp
              have hdV : d ∉ V.map Prod.fst := by
                rw [hV]
                intro hm
                obtain ⟨x, hx, e⟩ := List.mem_map.1 hm
                exact erase_not NN.out.fit.wone hi (by rw [HD.out]) hx e
              have hdK : d ∉ keysC D n := by
                have hx := getD_mem (0, 0) hi
                rw [HD.out] at hx
                exact (NN.out.fit.wfree _ hx).1
              have HVL : Hid (V.length = W.length - 1) := hide (by rw [hV]; exact HEL.out)
              have HUL : Hid (U.length = F.length + 1) := hide (by rw [hU]; exact hfl)
              rw [← hV, ← hU] at NL
              rw [← hV, ← hU] at R7 Z7
              clear hV hU hfl HFL
              have hn1 : n ≤ 1048576 := by have := NN.out.right.many; omega
              have hVl : V.length ≤ 1048576 := by have := HVL.out; omega
              have hUl : U.length ≤ 1048576 := by have := HUL.out; omega
              have HFG := hide (implForgetFailed_ok ya yk V za zc U da dc n D P W7 R7.out hn1 NL.out.small hVl hUl NL.out.zero NL.out.right)
              unfold fetV at HFG
              obtain ⟨⟨t0, t1, t2⟩, -, -, -⟩ := Z7.out
              go_wp2_with fail
              clear t0 t1 t2
              refine HFG.out.mono ?_
              rintro e w8 hres
              obtain ⟨l1, l2, l3, l4, l5, l6, rfl, hg8, hb8⟩ := hres.gf
              have A8 := hide (below_alloc w8 (.cells #[.int .i64 0, .slice l1 V.length l2, .slice l3 0 l4, .slice l5 n l6] 32))
              have Q8 := hide (Bx4.new w8 (.int .i64 0) (.slice l1 V.length l2) (.slice l3 0 l4) (.slice l5 n l6) 32)
              have Z8 := hide ((Z7.out.below hb8).below A8.out)
              have X8 := hide ((X7.out.below hb8).below A8.out)
              have R8 := hide ((R7.out.below hb8).below A8.out)
              have G8 := hide (hg8.rd.below A8.out)
              have B8 := hide (below_next (below_next B7.out hb8) A8.out)
              clear hres hg8 hb8 HFG Z7 X7 R7 B7
              have NF : Hid (Nice V [] D P n) := hide ⟨NL.out.right, ⟨NL.out.fit.wmany, by simp, NL.out.fit.wok, NL.out.fit.wone, fun x hx => ⟨(NL.out.fit.wfree x hx).1, by simp⟩, fun x hx => by simp at hx, by simp, fun x hx => by simp at hx⟩, NL.out.u8⟩
              have hV11 : ¬ 12 ≤ V.length := by have := HVL.out; omega
              have HA1 := hide (fun (u : World) (hb : Below w0.heap.size w0 u) (hr : RdF u ya V za U da D P n) => implAskFetch_away ya yk V za zc U da dc n D P d u e0 e1 (HG.out.below hb) hr hn1 NL.out.small hVl hUl NL.out.zero NL.out.right hok hdU)
              have HA2 := hide (fun (u : World) (hb : Below w0.heap.size w0 u) (hr : RdF u l1 V l3 [] l5 D P n) => implAskFetch_new l1 l2 V l3 l4 [] l5 l6 n D P d u hr hn1 NF.out.small hVl (by simp) NF.out.zero NF.out.right hok (by simp) (fun h => h.elim hdK hdV) hV11)
              unfold fetV at HA1 HA2
              have hf1 : ((V.length : Int) == (W.length : Int) - 1) = true := by have := HVL.out; simp; omega
              have hf1' : (V.length : Int) = (W.length : Int) - 1 := by have := HVL.out; omega
              have hf2 : ((U.length : Int) == (F.length : Int) + 1) = true := by have := HUL.out; simp; omega
              have hf2' : (U.length : Int) = (F.length : Int) + 1 := by have := HUL.out; omega
              have hwr1 : IntKind.i64.wrap ((W.length : Int) - 1) = (W.length : Int) - 1 := by simp [IntKind.wrap, IntKind.signed, IntKind.bits]; omega
              have hwr2 : IntKind.i64.wrap ((F.length : Int) + 1) = (F.length : Int) + 1 := by simp [IntKind.wrap, IntKind.signed, IntKind.bits]; omega
              have HFS := hide (And.intro hf1' hf2')
              clear hdU hdV hdK hf1' hf2'
              obtain ⟨⟨t0, t1, t2⟩, -, -, -⟩ := Z8.out
              obtain ⟨⟨m0, m1, m2, m3⟩, -, -, -, -⟩ := Q8.out
              obtain ⟨⟨x0, x1, x2⟩, -, -, -⟩ := X8.out
              go_wp2_with fail
              clear t0 t1 t2 m0 m1 m2 m3 x0 x1 x2
              refine (HA1.out _ B8.out R8.out).mono ?_
              rintro e w9 hres
              obtain ⟨p1, p2, p3, p4, p5, p6, rfl, hg9, hb9⟩ := hres.gf
              have hfd9 : ∀ (u : World) (q : Int) (v1 v2 v3 : Value), (Instr.field 32 (.agg #[.int .i64 q, v1, v2, v3]) 0).run Tryz.prog u = .ok (.int .i64 q) u := (fun _ _ _ _ _ => by kernel_rfl)
              obtain ⟨⟨m0, m1, m2, m3⟩, -, -, -, -⟩ := Q8.out.below hb9
              have G9 := hide (G8.out.below hb9)
              have B9 := hide (below_next B8.out hb9)
              clear hres hg9 hb9
              go_wp2_with fail
              clear m0 m1 m2 m3
              refine (HA2.out _ B9.out G9.out).mono ?_
              rintro e w10 hres
              obtain ⟨r1, r2, r3, r4, r5, r6, rfl, hg10, hb10⟩ := hres.gf
              have B10 := hide (below_next B9.out hb10)
              clear hres hg10 hb10
              go_wp2_with fail
              go_ret
              exact ⟨by first | rfl | simp, B10.out⟩
end Go.Proofs.YtfamiehfpmjljaaGreatDoor.fnFetches

