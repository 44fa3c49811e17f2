/-
  Texts put together: FetO FetQ FetZ FetZa.
-/
import Derived.Test.YtfamiehfpmjljaaGreatDoorKFetche8
import Derived.Deep.RegionLaw
import Derived.Deep.CutRange
import Derived.Test.YtfamiehfpmjljaaGreatDoorKFetche6
namespace Go.Proofs.YtfamiehfpmjljaaGreatDoor
open Go.RowKit Go.Maps
set_option linter.unusedVariables false

theorem row_far {w : World} {B b n : Nat} {v : Value} {zs : List Int} {a : Option Addr} {m c : Nat} (h : w.ownsRow B 2 1 v n (zs.map (Value.int .i64))) (hn : 0 < n) (hz : n = zs.length) (hb : w.cell? ⟨b, 0, none⟩ = some (.slice a m c)) : ∀ x, v.ownBlock = some x → x ≠ b := by
  rintro x hx rfl
  rcases h.2 with ⟨h', hh⟩ | ⟨g, cap, cur, rfl, hg, hgg, _⟩
  · omega
  · simp only [Value.ownBlock, Option.some.injEq] at hx
    subst hx
    have h1 := World.ownsRow.cellAt h 0 (by omega)
    rw [hb] at h1
    have hl : 0 < zs.length := by omega
    simp [List.getElem?_eq_getElem hl] at h1
set_option maxRecDepth 100000 in
set_option maxHeartbeats 6400000 in
theorem lose_last (B fb i : Nat) (W : List Wn) (F : List Int) (L : List Ch) (wa : Option Addr) (wk : Nat) (ps : List Nat) (fa : Option Addr) (fc bm N : Nat) (d t : Int) (a0 a1 : Addr) (w : World) (hgl : ∀ u : World, Below B w u → Ge u a0 a1) (h : NowF B fb w W F L wa wk ps fa fc bm N) (hB : B ≤ fb) (hl : W.length ≤ 1048576) (hi : i < W.length) (hd : W.getD i (0, 0) = (d, t)) (hf : ∀ j, j < W.length → j ≠ i → (W.getD j (0, 0)).1 ≠ d) (h0 : 0 ≤ t) (h9 : t ≤ 9) (h3 : ¬ t + 1 < 3) (h40 : ¬ 40 ≤ F.length) :
    Calls Tryz.prog 58 #[.pointer (some ⟨fb, 0, none⟩), .int .i64 d] w fun e w' => e = .returned .nilIface ∧ (∃ fa' fc', EndF B fb w' (W.eraseIdx i) (F ++ [d]) L wa wk (ps.eraseIdx i) fa' fc' bm N) ∧ Below B w w' := by
  obtain ⟨i1, ki, kz0, kz1, kz2⟩ := info_parts Tryz.infoI64
  have hd1 : (W.getD i (0, 0)).1 = d := by rw [hd]
  have HW := hide (wanted_yes fb wa wk i ps W d w h.box.1.1 h.wants.rd hl hi hd1 (fun j hj => hf j (by omega) (by omega)) (ps.getD i 0) rfl)
  have A1 := hide (below_alloc w (.cells #[.int .i64 0] 131))
  have N1 := hide (h.below A1.out)
  have hbx := (N1.out.wants.box i hi)
  rw [hd] at hbx
  have HLT := hide (lostTry_last (ps.getD i 0) d t _ hbx.2 h0 h9 h3)
  have hpl := hbx.1
  have hplt := (h.wants.box i hi).2.1.lt
  have hfl := h.box.lt
  have HGL := hide hgl
  have HT := hide (N1.out.wants.tries hi d (t + 1) hd1)
  have h41 : ¬ (40 : Int) ≤ (F.length : Int) := by omega
  have hel : (W.set i (d, t + 1)).length = W.length := List.length_set
  have her : (W.set i (d, t + 1)).eraseIdx i = W.eraseIdx i := by
    apply List.ext_getElem?
    intro j
    rw [List.getElem?_eraseIdx, List.getElem?_eraseIdx]
    split
    · rw [List.getElem?_set, if_neg (by omega)]
    · rw [List.getElem?_set, if_neg (by omega)]
  have HUQ : Hid (((W.set i (d, t + 1)).getD i (0, 0)).1 = d ∧ ∀ j, j < (W.set i (d, t + 1)).length → j ≠ i → ((W.set i (d, t + 1)).getD j (0, 0)).1 ≠ d) := hide ⟨by rw [getD_set W (0, 0) _ hi, if_pos rfl], fun j hj hji => by rw [getD_set W (0, 0) _ hi, if_neg hji]; exact hf j (by rw [hel] at hj; exact hj) hji⟩
  have HPL : Hid (∀ j, j < W.length → ps.getD j 0 < w.heap.size) := hide (fun j hj => (h.wants.box j hj).2.1.lt)
  have hwo : ∀ b, (Value.slice wa W.length wk).ownBlock = some b → fb + 1 ≤ b ∧ b < w.heap.size := fun b hb => h.wants.row.lt b hb
  clear hf hbx hd hd1 hgl
  generalize ps.getD i 0 = p at *
  have HB2 : Hid (Below fb w ((w.alloc (.cells #[.int .i64 0] 131)).setCell ⟨p, 1, none⟩ (.int .i64 (t + 1)))) := hide ((A1.out.mono (by omega)).setCell (by show fb ≤ p; omega) _)
  have hk1 := Kept.one (w.alloc (.cells #[.int .i64 0] 131)) p 1 (.int .i64 (t + 1))
  have N2 : Hid (NowF B fb ((w.alloc (.cells #[.int .i64 0] 131)).setCell ⟨p, 1, none⟩ (.int .i64 (t + 1))) (W.set i (d, t + 1)) F L wa wk ps fa fc bm N) := hide ⟨by rw [hel]; exact N1.out.box.kept hk1 (by omega), by rw [hel]; exact HT.out, ownsRow_kept N1.out.failed hk1 (fun b hb e => by have := N1.out.ahead b hb; omega), N1.out.ahead, N1.out.held.kept hk1 (by have := N1.out.high; omega) (fun x hx => by omega), N1.out.low, N1.out.high, N1.out.room⟩
  have HAH := hide (as_hit d w.heap.size (.int .i64 0) _ (HGL.out _ (HB2.out.mono hB)).ty (by rw [cell_set_far (by omega) (by simp : (w.alloc (.cells #[.int .i64 0] 131)).cell? ⟨w.heap.size, 0, none⟩ = some (.int .i64 0))]) (by rw [World.frozen?_setCell]; simp))
  clear h hk1 HT N1
  go_enter Tryz.func58, Tryz.ntmps58
  go_wp2_with fail
  refine HW.out.mono ?_
  rintro e w ⟨rfl, rfl⟩
  go_wp2_with fail
  have hsw : w.heap.size < (w.alloc (.cells #[.int .i64 0] 131)).heap.size := by simp
  generalize w.alloc (.cells #[.int .i64 0] 131) = W1 at *
  generalize hq : w.heap.size = q at *
  refine HLT.out.mono ?_
  rintro e w2 ⟨rfl, rfl⟩
  go_wp2_with fail
  refine HAH.out.mono ?_
  rintro e w3 ⟨rfl, hc3, hf3, hk3⟩
  have HB3 := hide (HB2.out.trans (hk3.below (B := fb) (by simp [World.setCell]; omega) (fun k hk e => by omega)))
  have N3 : Hid (NowF B fb w3 (W.set i (d, t + 1)) F L wa wk ps fa fc bm N) := hide ⟨N2.out.box.kept hk3 (by omega), ⟨ownsRow_kept N2.out.wants.row hk3 (fun b hb e => by rw [hel] at hb; have := hwo b hb; omega), N2.out.wants.len, fun j hj => ⟨(N2.out.wants.box j hj).1, (N2.out.wants.box j hj).2.kept hk3 (fun e => by have h1 := HPL.out j (by rw [hel] at hj; exact hj); omega)⟩, N2.out.wants.one⟩, ownsRow_kept N2.out.failed hk3 (fun b hb e => by have := N2.out.ahead b hb; omega), N2.out.ahead, N2.out.held.kept hk3 (by have := N2.out.high; omega) (fun x hx => by omega), N2.out.low, N2.out.high, N2.out.room⟩
  have HWM := hide (wantNoMore_any B fb i (W.set i (d, t + 1)) F L wa wk ps fa fc bm N d w3 N3.out hB (by rw [hel]; exact hl) (by rw [hel]; exact hi) HUQ.out.1 HUQ.out.2)
  rw [her, hel] at HWM
  have hlt3 : q < w3.heap.size := World.block_lt_of_cell? w3 ⟨q, 0, none⟩ hc3
  obtain ⟨⟨x0, x1, x2⟩, x3, x4, x5⟩ := N3.out.box
  clear hk3
  go_wp2_with fail
  clear x0 x1 x2 x3 x4 x5
  refine HWM.out.mono ?_
  rintro e w4 ⟨rfl, hN4, hb4, hk4⟩
  have N4 := hide hN4
  have HB4 := hide (HB3.out.trans hb4)
  have hqn : ¬ (q = fb ∨ (Value.slice wa W.length wk).ownBlock = some q) := fun e => e.elim (fun e => by omega) (fun e => by have := (hwo q e).2; omega)
  have hc4 : w4.cell? ⟨q, 0, none⟩ = some (.int .i64 d) := (hk4.cell (p := ⟨q, 0, none⟩) hlt3 hqn).trans hc3
  have hsz4 : B ≤ w4.heap.size := by have := N4.out.box.lt; omega
  have hm1 : F.length + 1 ≤ maxLen := by unfold maxLen; omega
  have hm2 : (F.length + 1) * 8 ≤ 140737488355328 := by omega
  have hfo : ∀ b, (Value.slice fa F.length fc).ownBlock = some b → b < fb ∧ b ≠ bm := fun b hb => ⟨N4.out.ahead b hb, row_map N4.out.failed N4.out.held b hb⟩
  have hfb4 := N4.out.box.lt
  clear hN4 hb4 hk4 hc3 hf3 HLT HAH HWM N2 N3 HB2 HB3 HW A1 HUQ hq
  obtain ⟨⟨x0, x1, x2⟩, x3, x4, x5⟩ := N4.out.box
  go_upto_region 10 with fail
  go_region_law
    ((refine step_append_own (by rfl) (.tmp 33) (.tmp 36) 25 (by rfl) B 2 i1 (.int .i64 0) 1 8 Tryz.underlying25 ki kz0 kz1 kz2 rfl (by decide) (.slice fa F.length fc) F.length (F.map (Value.int .i64)) (by rfl) (N4.out.failed.alloc _) ⟨w4.heap.size, 0, none⟩ 1 1 [.int .i64 d] (by rfl) (by rfl) (news1 (by simp)) (by intro u hu; simp at hu; subst hu; rfl) (F.length + 1) rfl hm1 hm2 (by simp; omega) ?_; intro a' c' w5 hrow5 hk5; have O5 := hide hrow5; have K5 := hide hk5; have X5 := hide (((N4.out.box.below (Below.refl _ _).drew).below (below_alloc _ _)).kept hk5 (fun e => by have := (hfo _ e).1; omega)); clear hrow5 hk5; obtain ⟨⟨y0, y1, y2⟩, y3, y4, y5⟩ := X5.out))
  all_goals
    have BA := hide ((below_alloc w4 (.cells #[.int .i64 d] 2)).drew)
    have hk6 := Kept.one w5 fb 1 (.slice a' (F.length + 1) c')
    have hfl1 : (F ++ [d]).length = F.length + 1 := by simp
    have O6 : Hid (w5.ownsRow B 2 1 (.slice a' (F.length + 1) c') (F.length + 1) ((F ++ [d]).map (Value.int .i64))) := hide (by rw [List.map_append]; exact O5.out)
    have hfar := row_far O6.out (by omega) hfl1.symm X5.out.1.1
    have hend : EndF B fb (w5.setCell ⟨fb, 1, none⟩ (.slice a' (F.length + 1) c')) (W.eraseIdx i) (F ++ [d]) L wa wk (ps.eraseIdx i) a' c' bm N := ⟨by rw [hfl1]; exact X5.out.set1 _, (((N4.out.wants.below BA.out).kept K5.out (fun b hb e => by have := (hfo b e).1; omega)).kept hk6 (fun b hb e => by omega)).rd, by rw [hfl1]; exact ownsRow_kept O6.out hk6 (fun b hb e => hfar b hb e), ((N4.out.held.below BA.out).kept K5.out (fun e => (hfo _ e).2 rfl) (fun x hx => (N4.out.failed.lt x hx).1)).kept hk6 (by have := N4.out.high; omega) (fun x hx => by omega)⟩
    have hbel : Below B w (w5.setCell ⟨fb, 1, none⟩ (.slice a' (F.length + 1) c')) := (((HB4.out.mono hB).trans (BA.out.mono hsz4)).trans (K5.out.below (B := B) (by have := BA.out.size; omega) (fun j hj e => by have := (N4.out.failed.lt j e).1; omega))).setCell hB _
    have HEND := hide hend
    have HBEL := hide hbel
    clear hend hbel hk6 hfar O6 x0 x1 x2 x3 x4 x5 y0 y1 y2 y3 y4 y5
    generalize w5.setCell ⟨fb, 1, none⟩ (.slice a' (F.length + 1) c') = W6 at *
    go_wp2_with fail
    go_ret
    exact ⟨rfl, ⟨a', c', HEND.out⟩, HBEL.out⟩
end Go.Proofs.YtfamiehfpmjljaaGreatDoor

namespace Go.Proofs.YtfamiehfpmjljaaGreatDoor
open Go.RowKit Go.Maps
set_option linter.unusedVariables false
set_option maxRecDepth 100000 in
set_option maxHeartbeats 6400000 in
theorem implLoseFetch_bad (wa : Option Addr) (wk : Nat) (W : List Wn) (fa : Option Addr) (fc : Nat) (F : List Int) (ca : Option Addr) (cc n : Nat) (D : Nat → Int) (P : Nat → List Int) (d : Int) (w : World) (h : RdF w wa W fa F ca D P n) (hn : n ≤ 1048576) (hP : SmallP P n) (hWl : W.length ≤ 1048576) (hFl : F.length ≤ 1048576) (hz : fetFault W F D P n ≠ 0) :
    Calls Tryz.prog 16 #[fetV wa W.length wk fa F.length fc ca n cc, .int .i64 d] w (ResF (fetFault W F D P n) [] [] D P 0 w) := by
  have B0 := hide (below_next (below_alloc w (.cells #[.slice wa W.length wk, .slice fa F.length fc, .slice ca n cc] 28)) (below_alloc _ (.cells #[.int .i64 0, .slice none 0 0, .slice none 0 0, .slice none 0 0] 32)))
  have X0 := hide ((Bx3.new w (.slice wa W.length wk) (.slice fa F.length fc) (.slice ca n cc) 28).below (below_alloc _ (.cells #[.int .i64 0, .slice none 0 0, .slice none 0 0, .slice none 0 0] 32)))
  have R0 := hide (Bx4.new (w.alloc (.cells #[.slice wa W.length wk, .slice fa F.length fc, .slice ca n cc] 28)) (.int .i64 0) (.slice none 0 0) (.slice none 0 0) (.slice none 0 0) 32)
  have hs : (w.alloc (.cells #[.slice wa W.length wk, .slice fa F.length fc, .slice ca n cc] 28)).heap.size = w.heap.size + 1 := by simp
  rw [hs] at R0
  clear hs
  have HFF := hide (implFetchFault_any wa wk W fa fc F ca cc n D P _ (h.below B0.out) hn hP hWl hFl)
  clear h hP
  unfold fetV at HFF ⊢
  have hz1 : (fetFault W F D P n != 0) = true := by simpa using hz
  generalize fetFault W F D P n = A at *
  clear hz
  go_enter Tryz.func16, Tryz.ntmps16
  obtain ⟨⟨t0, t1, t2⟩, -, -, -⟩ := X0.out
  go_wp2_with fail
  clear t0 t1 t2
  generalize (w.alloc (.cells #[.slice wa W.length wk, .slice fa F.length fc, .slice ca n cc] 28)).alloc (.cells #[.int .i64 0, .slice none 0 0, .slice none 0 0, .slice none 0 0] 32) = W0 at *
  refine HFF.out.mono ?_
  rintro e w1 ⟨rfl, hb1⟩
  have B1 := hide (below_next B0.out hb1)
  have X1 := hide (X0.out.below hb1)
  have R1 := hide (R0.out.below hb1)
  clear hb1 X0 R0 B0 HFF
  obtain ⟨⟨m0, m1, m2, m3⟩, k0, k1, k2, k3⟩ := R1.out
  go_wp2_with fail
  have hk := Kept.fourF w1 (w.heap.size + 1) (.int .i64 A) (.slice none 0 0) (.slice none 0 0) (.slice none 0 0)
  exact bodyPost_ret (v := .agg #[.int .i64 A, .slice none 0 0, .slice none 0 0, .slice none 0 0]) (by simp [results, Tryz.results16, go_sem, m0, m1, m2, m3]) rfl (ResF.bad (B1.out.trans (hk.below (B := w.heap.size) B1.out.size (fun k hk e => by omega))))
set_option maxRecDepth 100000 in
set_option maxHeartbeats 6400000 in
theorem implLoseFetch_none (wa : Option Addr) (wk : Nat) (W : List Wn) (fa : Option Addr) (fc : Nat) (F : List Int) (ca : Option Addr) (cc n : Nat) (D : Nat → Int) (P : Nat → List Int) (d : Int) (w : World) (a0 a1 : Addr) (hg : Ge w a0 a1) (h : RdF w wa W fa F ca D P n) (hn : n ≤ 1048576) (hP : SmallP P n) (hWl : W.length ≤ 1048576) (hFl : F.length ≤ 1048576) (hz : fetFault W F D P n = 0) (hR : RightC D P n) (hf : ∀ j, j < W.length → (W.getD j (0, 0)).1 ≠ d) :
    Calls Tryz.prog 16 #[fetV wa W.length wk fa F.length fc ca n cc, .int .i64 d] w (ResF 4 [] [] D P 0 w) := by
  have B0 := hide (below_next (below_alloc w (.cells #[.slice wa W.length wk, .slice fa F.length fc, .slice ca n cc] 28)) (below_alloc _ (.cells #[.int .i64 0, .slice none 0 0, .slice none 0 0, .slice none 0 0] 32)))
  have X0 := hide ((Bx3.new w (.slice wa W.length wk) (.slice fa F.length fc) (.slice ca n cc) 28).below (below_alloc _ (.cells #[.int .i64 0, .slice none 0 0, .slice none 0 0, .slice none 0 0] 32)))
  have R0 := hide (Bx4.new (w.alloc (.cells #[.slice wa W.length wk, .slice fa F.length fc, .slice ca n cc] 28)) (.int .i64 0) (.slice none 0 0) (.slice none 0 0) (.slice none 0 0) 32)
  have hs : (w.alloc (.cells #[.slice wa W.length wk, .slice fa F.length fc, .slice ca n cc] 28)).heap.size = w.heap.size + 1 := by simp
  rw [hs] at R0
  clear hs
  have HFF := hide (implFetchFault_any wa wk W fa fc F ca cc n D P _ (h.below B0.out) hn hP hWl hFl)
  rw [hz] at HFF
  have HFO := hide (fun (u : World) (hu : Below w.heap.size w u) => fetchingOf_any wa wk W fa fc F ca cc n D P u (h.below hu) hR hWl hFl)
  have HRt := hide hR
  have HG := hide hg
  have HF1 := hide hf
  clear h hP hz hR hg hf
  unfold fetV at HFF HFO ⊢
  go_enter Tryz.func16, Tryz.ntmps16
  obtain ⟨⟨t0, t1, t2⟩, -, -, -⟩ := X0.out
  go_wp2_with fail
  clear t0 t1 t2
  generalize (w.alloc (.cells #[.slice wa W.length wk, .slice fa F.length fc, .slice ca n cc] 28)).alloc (.cells #[.int .i64 0, .slice none 0 0, .slice none 0 0, .slice none 0 0] 32) = W0 at *
  refine HFF.out.mono ?_
  rintro e w1 ⟨rfl, hb1⟩
  have B1 := hide (below_next B0.out hb1)
  have X1 := hide (X0.out.below hb1)
  have R1 := hide (R0.out.below hb1)
  clear hb1 X0 R0 B0 HFF
  obtain ⟨⟨t0, t1, t2⟩, -, -, -⟩ := X1.out
  go_wp2_with fail
  clear t0 t1 t2
  refine (HFO.out w1 B1.out).mono ?_
  rintro e w2 ⟨fb, rfl, hO, hfb, hb2⟩
  obtain ⟨va, vc, ps, ga, gc, bm, N, hN, hN1000⟩ := hO.now
  have B2 := hide (below_next B1.out hb2)
  have R2 := hide (R1.out.below hb2)
  have N2 := hide hN
  have hz2 := hb2.size
  have hr1 := R1.out.lt
  have hfl := hN.box.lt
  have hzw := B1.out.size
  clear hb2 hN hO R1 HFO X1
  have HAS := hide (lose_none w1.heap.size fb W F (lst D P n) va vc ps ga gc bm N d a0 a1 w2 (HG.out.below B2.out) N2.out hWl HF1.out)
  have HAE := hide (answer_err fb 262 (.pointer (some a0)) 4 w2 (fun u hu => fetchCode_unwanted a0 a1 u (HG.out.below (below_next B2.out hu))))
  go_wp2_with fail
  refine HAS.out.mono ?_
  rintro e w2 ⟨rfl, rfl⟩
  go_wp2_with fail
  refine HAE.out.mono ?_
  rintro e w3 ⟨rfl, hb3⟩
  have B3 := hide (below_next B2.out hb3)
  have R3 := hide (R2.out.below hb3)
  clear hb3
  obtain ⟨⟨m0, m1, m2, m3⟩, k0, k1, k2, k3⟩ := R3.out
  go_wp2_with fail
  have hk := Kept.fourF w3 (w.heap.size + 1) (.int .i64 4) (.slice none 0 0) (.slice none 0 0) (.slice none 0 0)
  exact bodyPost_ret (v := .agg #[.int .i64 4, .slice none 0 0, .slice none 0 0, .slice none 0 0]) (by simp [results, Tryz.results16, go_sem, m0, m1, m2, m3]) rfl (ResF.bad (B3.out.trans (hk.below (B := w.heap.size) B3.out.size (fun k hk e => by omega))))
set_option maxRecDepth 100000 in
set_option maxHeartbeats 6400000 in
theorem implLoseFetch_full (wa : Option Addr) (wk : Nat) (W : List Wn) (fa : Option Addr) (fc : Nat) (F : List Int) (ca : Option Addr) (cc n : Nat) (D : Nat → Int) (P : Nat → List Int) (d : Int) (w : World) (a0 a1 : Addr) (hg : Ge w a0 a1) (h : RdF w wa W fa F ca D P n) (hn : n ≤ 1048576) (hP : SmallP P n) (hWl : W.length ≤ 1048576) (hFl : F.length ≤ 1048576) (hz : fetFault W F D P n = 0) (hR : RightC D P n) (i : Nat) (t : Int) (hi : i < W.length) (hd : W.getD i (0, 0) = (d, t)) (hf : ∀ j, j < W.length → j ≠ i → (W.getD j (0, 0)).1 ≠ d) (h0 : 0 ≤ t) (h9 : t ≤ 9) (h3 : ¬ t + 1 < 3) (h40 : 40 ≤ F.length) :
    Calls Tryz.prog 16 #[fetV wa W.length wk fa F.length fc ca n cc, .int .i64 d] w (ResF 2 [] [] D P 0 w) := by
  have B0 := hide (below_next (below_alloc w (.cells #[.slice wa W.length wk, .slice fa F.length fc, .slice ca n cc] 28)) (below_alloc _ (.cells #[.int .i64 0, .slice none 0 0, .slice none 0 0, .slice none 0 0] 32)))
  have X0 := hide ((Bx3.new w (.slice wa W.length wk) (.slice fa F.length fc) (.slice ca n cc) 28).below (below_alloc _ (.cells #[.int .i64 0, .slice none 0 0, .slice none 0 0, .slice none 0 0] 32)))
  have R0 := hide (Bx4.new (w.alloc (.cells #[.slice wa W.length wk, .slice fa F.length fc, .slice ca n cc] 28)) (.int .i64 0) (.slice none 0 0) (.slice none 0 0) (.slice none 0 0) 32)
  have hs : (w.alloc (.cells #[.slice wa W.length wk, .slice fa F.length fc, .slice ca n cc] 28)).heap.size = w.heap.size + 1 := by simp
  rw [hs] at R0
  clear hs
  have HFF := hide (implFetchFault_any wa wk W fa fc F ca cc n D P _ (h.below B0.out) hn hP hWl hFl)
  rw [hz] at HFF
  have HFO := hide (fun (u : World) (hu : Below w.heap.size w u) => fetchingOf_any wa wk W fa fc F ca cc n D P u (h.below hu) hR hWl hFl)
  have HRt := hide hR
  have HG := hide hg
  have HF1 := hide (And.intro hd hf)
  clear h hP hz hR hg hf hd
  unfold fetV at HFF HFO ⊢
  go_enter Tryz.func16, Tryz.ntmps16
  obtain ⟨⟨t0, t1, t2⟩, -, -, -⟩ := X0.out
  go_wp2_with fail
  clear t0 t1 t2
  generalize (w.alloc (.cells #[.slice wa W.length wk, .slice fa F.length fc, .slice ca n cc] 28)).alloc (.cells #[.int .i64 0, .slice none 0 0, .slice none 0 0, .slice none 0 0] 32) = W0 at *
  refine HFF.out.mono ?_
  rintro e w1 ⟨rfl, hb1⟩
  have B1 := hide (below_next B0.out hb1)
  have X1 := hide (X0.out.below hb1)
  have R1 := hide (R0.out.below hb1)
  clear hb1 X0 R0 B0 HFF
  obtain ⟨⟨t0, t1, t2⟩, -, -, -⟩ := X1.out
  go_wp2_with fail
  clear t0 t1 t2
  refine (HFO.out w1 B1.out).mono ?_
  rintro e w2 ⟨fb, rfl, hO, hfb, hb2⟩
  obtain ⟨va, vc, ps, ga, gc, bm, N, hN, hN1000⟩ := hO.now
  have B2 := hide (below_next B1.out hb2)
  have R2 := hide (R1.out.below hb2)
  have N2 := hide hN
  have hz2 := hb2.size
  have hr1 := R1.out.lt
  have hfl := hN.box.lt
  have hzw := B1.out.size
  clear hb2 hN hO R1 HFO X1
  have HAS := hide (lose_full w1.heap.size fb i W F (lst D P n) va vc ps ga gc bm N d t a0 a1 w2 (HG.out.below B2.out) (fun u hu => HG.out.below (B2.out.trans (hu.mono hzw))) N2.out hfb hWl hi HF1.out.1 (fun j hj => HF1.out.2 j (by omega) (by omega)) h0 h9 (by omega) (by omega))
  go_wp2_with fail
  refine HAS.out.mono ?_
  rintro e w3 ⟨rfl, hb3⟩
  have hz3 := hb3.size
  have B3 := hide (B2.out.trans (hb3.mono (by omega)))
  have R3 := hide (R2.out.kept (S := fun b => fb ≤ b) ⟨hb3.os, hb3.tape, hb3.output, hb3.size, fun k hk hn => hb3.block k (by omega)⟩ (by omega))
  have HAE := hide (answer_err fb 262 (.pointer (some a1)) 2 w3 (fun u hu => fetchCode_noRoom a0 a1 u (HG.out.below (below_next B3.out hu))))
  clear hb3 R2
  go_wp2_with fail
  refine HAE.out.mono ?_
  rintro e w4 ⟨rfl, hb4⟩
  have B4 := hide (below_next B3.out hb4)
  have R4 := hide (R3.out.below hb4)
  clear hb4
  obtain ⟨⟨m0, m1, m2, m3⟩, k0, k1, k2, k3⟩ := R4.out
  go_wp2_with fail
  have hk := Kept.fourF w4 (w.heap.size + 1) (.int .i64 2) (.slice none 0 0) (.slice none 0 0) (.slice none 0 0)
  exact bodyPost_ret (v := .agg #[.int .i64 2, .slice none 0 0, .slice none 0 0, .slice none 0 0]) (by simp [results, Tryz.results16, go_sem, m0, m1, m2, m3]) rfl (ResF.bad (B4.out.trans (hk.below (B := w.heap.size) B4.out.size (fun k hk e => by omega))))
set_option maxRecDepth 100000 in
set_option maxHeartbeats 6400000 in
theorem implLoseFetch_more (wa : Option Addr) (wk : Nat) (W : List Wn) (fa : Option Addr) (fc : Nat) (F : List Int) (ca : Option Addr) (cc n : Nat) (D : Nat → Int) (P : Nat → List Int) (d : Int) (w : World) (h : RdF w wa W fa F ca D P n) (hn : n ≤ 1048576) (hP : SmallP P n) (hWl : W.length ≤ 1048576) (hFl : F.length ≤ 1048576) (hz : fetFault W F D P n = 0) (hR : RightC D P n) (i : Nat) (t : Int) (hi : i < W.length) (hd : W.getD i (0, 0) = (d, t)) (hf : ∀ j, j < W.length → j ≠ i → (W.getD j (0, 0)).1 ≠ d) (h0 : 0 ≤ t) (h3 : t + 1 < 3) :
    Calls Tryz.prog 16 #[fetV wa W.length wk fa F.length fc ca n cc, .int .i64 d] w (ResF 0 (W.set i (d, t + 1)) F D P n w) := by
  have B0 := hide (below_next (below_alloc w (.cells #[.slice wa W.length wk, .slice fa F.length fc, .slice ca n cc] 28)) (below_alloc _ (.cells #[.int .i64 0, .slice none 0 0, .slice none 0 0, .slice none 0 0] 32)))
  have X0 := hide ((Bx3.new w (.slice wa W.length wk) (.slice fa F.length fc) (.slice ca n cc) 28).below (below_alloc _ (.cells #[.int .i64 0, .slice none 0 0, .slice none 0 0, .slice none 0 0] 32)))
  have R0 := hide (Bx4.new (w.alloc (.cells #[.slice wa W.length wk, .slice fa F.length fc, .slice ca n cc] 28)) (.int .i64 0) (.slice none 0 0) (.slice none 0 0) (.slice none 0 0) 32)
  have hs : (w.alloc (.cells #[.slice wa W.length wk, .slice fa F.length fc, .slice ca n cc] 28)).heap.size = w.heap.size + 1 := by simp
  rw [hs] at R0
  clear hs
  have HFF := hide (implFetchFault_any wa wk W fa fc F ca cc n D P _ (h.below B0.out) hn hP hWl hFl)
  rw [hz] at HFF
  have HFO := hide (fun (u : World) (hu : Below w.heap.size w u) => fetchingOf_any wa wk W fa fc F ca cc n D P u (h.below hu) hR hWl hFl)
  have HRt := hide hR
  have HF1 := hide (And.intro hd hf)
  clear h hP hz hR hf hd
  unfold fetV at HFF HFO ⊢
  go_enter Tryz.func16, Tryz.ntmps16
  obtain ⟨⟨t0, t1, t2⟩, -, -, -⟩ := X0.out
  go_wp2_with fail
  clear t0 t1 t2
  generalize (w.alloc (.cells #[.slice wa W.length wk, .slice fa F.length fc, .slice ca n cc] 28)).alloc (.cells #[.int .i64 0, .slice none 0 0, .slice none 0 0, .slice none 0 0] 32) = W0 at *
  refine HFF.out.mono ?_
  rintro e w1 ⟨rfl, hb1⟩
  have B1 := hide (below_next B0.out hb1)
  have X1 := hide (X0.out.below hb1)
  have R1 := hide (R0.out.below hb1)
  clear hb1 X0 R0 B0 HFF
  obtain ⟨⟨t0, t1, t2⟩, -, -, -⟩ := X1.out
  go_wp2_with fail
  clear t0 t1 t2
  refine (HFO.out w1 B1.out).mono ?_
  rintro e w2 ⟨fb, rfl, hO, hfb, hb2⟩
  obtain ⟨va, vc, ps, ga, gc, bm, N, hN, hN1000⟩ := hO.now
  have B2 := hide (below_next B1.out hb2)
  have R2 := hide (R1.out.below hb2)
  have N2 := hide hN
  have hz2 := hb2.size
  have hr1 := R1.out.lt
  have hfl := hN.box.lt
  have hzw := B1.out.size
  clear hb2 hN hO R1 HFO X1
  have HAS := hide (lose_more w1.heap.size fb i W F (lst D P n) va vc ps ga gc bm N d t w2 N2.out hfb hWl hi HF1.out.1 (fun j hj => HF1.out.2 j (by omega) (by omega)) h0 h3)
  have hWl2 : (W.set i (d, t + 1)).length ≤ 1048576 := by simpa using hWl
  go_wp2_with fail
  refine HAS.out.mono ?_
  rintro e w3 ⟨rfl, hN3, hb3⟩
  have E3 := hide hN3.end
  have hz3 := hb3.size
  have B3 := hide (B2.out.trans (hb3.mono (by omega)))
  have R3 := hide (R2.out.kept (S := fun b => fb ≤ b) ⟨hb3.os, hb3.tape, hb3.output, hb3.size, fun k hk hn => hb3.block k (by omega)⟩ (by omega))
  clear hb3 hN3 HAS R2 N2
  have hl2 : (lst D P n).length = n := lst_length D P n
  have HAN := hide (answer_nil fb va vc ps (W.set i (d, t + 1)) ga gc F.length bm N w1.heap.size (lst D P n) w3 E3.out.box E3.out.wants E3.out.held (by have := B3.out.size; omega) hWl2 (by rw [hl2]; exact hn) (lst_small HRt.out))
  go_wp2_with fail
  refine HAN.out.mono ?_
  rintro e w4 ⟨xa, xc, ya, yc, rfl, hOW, hGC, hb4⟩
  rw [hl2] at hGC ⊢
  have OW4 := hide hOW
  have GC4 := hide (gc_right HRt.out hGC)
  have OF4 := hide (ownsRow_below E3.out.failed hb4)
  have B4 := hide (below_next B3.out hb4)
  obtain ⟨⟨m0, m1, m2, m3⟩, k0, k1, k2, k3⟩ := R3.out.below hb4
  have hz4 := hb4.size
  clear hOW hGC hb4
  go_wp2_with fail
  exact bodyPost_ret (v := .agg #[.int .i64 0, .slice xa (W.set i (d, t + 1)).length xc, .slice ga F.length gc, .slice ya n yc]) (by simp [results, Tryz.results16, go_sem, m0, m1, m2, m3]) rfl (ResF.box (B := w1.heap.size) (OW4.out.mono (by omega)) OF4.out (GC4.out.mono (by omega)) B4.out (by omega) (by omega))
set_option maxRecDepth 100000 in
set_option maxHeartbeats 6400000 in
theorem implLoseFetch_last (wa : Option Addr) (wk : Nat) (W : List Wn) (fa : Option Addr) (fc : Nat) (F : List Int) (ca : Option Addr) (cc n : Nat) (D : Nat → Int) (P : Nat → List Int) (d : Int) (w : World) (a0 a1 : Addr) (hg : Ge w a0 a1) (h : RdF w wa W fa F ca D P n) (hn : n ≤ 1048576) (hP : SmallP P n) (hWl : W.length ≤ 1048576) (hFl : F.length ≤ 1048576) (hz : fetFault W F D P n = 0) (hR : RightC D P n) (i : Nat) (t : Int) (hi : i < W.length) (hd : W.getD i (0, 0) = (d, t)) (hf : ∀ j, j < W.length → j ≠ i → (W.getD j (0, 0)).1 ≠ d) (h0 : 0 ≤ t) (h9 : t ≤ 9) (h3 : ¬ t + 1 < 3) (h40 : ¬ 40 ≤ F.length) :
    Calls Tryz.prog 16 #[fetV wa W.length wk fa F.length fc ca n cc, .int .i64 d] w (ResF 0 (W.eraseIdx i) (F ++ [d]) D P n w) := by
  have B0 := hide (below_next (below_alloc w (.cells #[.slice wa W.length wk, .slice fa F.length fc, .slice ca n cc] 28)) (below_alloc _ (.cells #[.int .i64 0, .slice none 0 0, .slice none 0 0, .slice none 0 0] 32)))
  have X0 := hide ((Bx3.new w (.slice wa W.length wk) (.slice fa F.length fc) (.slice ca n cc) 28).below (below_alloc _ (.cells #[.int .i64 0, .slice none 0 0, .slice none 0 0, .slice none 0 0] 32)))
  have R0 := hide (Bx4.new (w.alloc (.cells #[.slice wa W.length wk, .slice fa F.length fc, .slice ca n cc] 28)) (.int .i64 0) (.slice none 0 0) (.slice none 0 0) (.slice none 0 0) 32)
  have hs : (w.alloc (.cells #[.slice wa W.length wk, .slice fa F.length fc, .slice ca n cc] 28)).heap.size = w.heap.size + 1 := by simp
  rw [hs] at R0
  clear hs
  have HFF := hide (implFetchFault_any wa wk W fa fc F ca cc n D P _ (h.below B0.out) hn hP hWl hFl)
  rw [hz] at HFF
  have HFO := hide (fun (u : World) (hu : Below w.heap.size w u) => fetchingOf_any wa wk W fa fc F ca cc n D P u (h.below hu) hR hWl hFl)
  have HRt := hide hR
  have HG := hide hg
  have HF1 := hide (And.intro hd hf)
  clear h hP hz hR hg hf hd
  unfold fetV at HFF HFO ⊢
  go_enter Tryz.func16, Tryz.ntmps16
  obtain ⟨⟨t0, t1, t2⟩, -, -, -⟩ := X0.out
  go_wp2_with fail
  clear t0 t1 t2
  generalize (w.alloc (.cells #[.slice wa W.length wk, .slice fa F.length fc, .slice ca n cc] 28)).alloc (.cells #[.int .i64 0, .slice none 0 0, .slice none 0 0, .slice none 0 0] 32) = W0 at *
  refine HFF.out.mono ?_
  rintro e w1 ⟨rfl, hb1⟩
  have B1 := hide (below_next B0.out hb1)
  have X1 := hide (X0.out.below hb1)
  have R1 := hide (R0.out.below hb1)
  clear hb1 X0 R0 B0 HFF
  obtain ⟨⟨t0, t1, t2⟩, -, -, -⟩ := X1.out
  go_wp2_with fail
  clear t0 t1 t2
  refine (HFO.out w1 B1.out).mono ?_
  rintro e w2 ⟨fb, rfl, hO, hfb, hb2⟩
  obtain ⟨va, vc, ps, ga, gc, bm, N, hN, hN1000⟩ := hO.now
  have B2 := hide (below_next B1.out hb2)
  have R2 := hide (R1.out.below hb2)
  have N2 := hide hN
  have hz2 := hb2.size
  have hr1 := R1.out.lt
  have hfl := hN.box.lt
  have hzw := B1.out.size
  clear hb2 hN hO R1 HFO X1
  have HAS := hide (lose_last w1.heap.size fb i W F (lst D P n) va vc ps ga gc bm N d t a0 a1 w2 (fun u hu => HG.out.below (B2.out.trans (hu.mono hzw))) N2.out hfb hWl hi HF1.out.1 HF1.out.2 h0 h9 (by omega) (by omega))
  have hWl2 : (W.eraseIdx i).length ≤ 1048576 := Nat.le_trans (List.length_eraseIdx_le ..) hWl
  go_wp2_with fail
  refine HAS.out.mono ?_
  rintro e w3 ⟨rfl, ⟨ja, jc, hE3⟩, hb3⟩
  have E3 := hide hE3
  have hz3 := hb3.size
  have B3 := hide (B2.out.trans (hb3.mono (by omega)))
  have R3 := hide (R2.out.kept (S := fun b => w1.heap.size ≤ b) ⟨hb3.os, hb3.tape, hb3.output, hb3.size, fun k hk hn => hb3.block k (by omega)⟩ (by omega))
  clear hb3 hE3 HAS R2 N2
  have hl2 : (lst D P n).length = n := lst_length D P n
  have HAN := hide (answer_nil fb va vc (ps.eraseIdx i) (W.eraseIdx i) ja jc (F ++ [d]).length bm N w1.heap.size (lst D P n) w3 E3.out.box E3.out.wants E3.out.held (by have := B3.out.size; omega) hWl2 (by rw [hl2]; exact hn) (lst_small HRt.out))
  go_wp2_with fail
  refine HAN.out.mono ?_
  rintro e w4 ⟨xa, xc, ya, yc, rfl, hOW, hGC, hb4⟩
  rw [hl2] at hGC ⊢
  have OW4 := hide hOW
  have GC4 := hide (gc_right HRt.out hGC)
  have OF4 := hide (ownsRow_below E3.out.failed hb4)
  have B4 := hide (below_next B3.out hb4)
  obtain ⟨⟨m0, m1, m2, m3⟩, k0, k1, k2, k3⟩ := R3.out.below hb4
  have hz4 := hb4.size
  clear hOW hGC hb4
  go_wp2_with fail
  exact bodyPost_ret (v := .agg #[.int .i64 0, .slice xa (W.eraseIdx i).length xc, .slice ja (F ++ [d]).length jc, .slice ya n yc]) (by simp [results, Tryz.results16, go_sem, m0, m1, m2, m3]) rfl (ResF.box (B := w1.heap.size) (OW4.out.mono (by omega)) OF4.out (GC4.out.mono (by omega)) B4.out (by omega) (by omega))
end Go.Proofs.YtfamiehfpmjljaaGreatDoor

namespace Go.Proofs.YtfamiehfpmjljaaGreatDoor
open Go.RowKit Go.Maps
set_option linter.unusedVariables false
theorem laidW_set {W : List Wn} {i : Nat} {d t : Int} (hi : i < W.length) (hd : (W.getD i (0, 0)).1 = d) :
    (flat W.length (laidW W.length W)).set (i * 2 + 1) (.int .i64 t) = flat (W.set i (d, t)).length (laidW (W.set i (d, t)).length (W.set i (d, t))) := by
  rw [List.length_set, flat_set (n := W.length) (k := 2) (F := laidW W.length W) (fun i _ => laidW_length _ _ _) i 1 hi (by decide)]
  apply flat_congr
  intro j hj
  by_cases h : j = i
  · subst h
    simp only [laidW, if_pos hj, getD_set W (0, 0) (d, t) hi, hd]
    rfl
  · simp only [laidW, if_pos hj, getD_set W (0, 0) (d, t) hi, if_neg h]
set_option maxRecDepth 100000 in
set_option maxHeartbeats 3200000 in
theorem l10Lose_more (B fb i : Nat) (wa : Option Addr) (wc : Nat) (W : List Wn) (u1 u2 : Value) (d t : Int) (w : World) (hX : Bx3 w fb (.slice wa W.length wc) u1 u2) (hO : OwnW B w (.slice wa W.length wc) W) (hfar : (Value.slice wa W.length wc).ownBlock ≠ some fb) (hWl : W.length ≤ 1048576) (hi : i < W.length) (hd : W.getD i (0, 0) = (d, t)) (h0 : 0 ≤ t) (h3 : t + 1 < 3) :
    Calls Tryz.prog 51 #[.pointer (some ⟨fb, 0, none⟩), .int .i64 i] w fun e w' => e = .returned (.int .i64 0) ∧ OwnW B w' (.slice wa W.length wc) (W.set i (d, t + 1)) ∧ Kept (fun b => (Value.slice wa W.length wc).ownBlock = some b) w w' := by
  obtain ⟨g, rfl, hc⟩ := ownsRow_addr hO (.inl (by omega))
  have hl := flat_length (n := W.length) (k := 2) (F := laidW W.length W) (fun i _ => laidW_length _ _ _)
  have hz1 : (flat W.length (laidW W.length W))[i * 2 + 1]? = some (.int .i64 t) := by
    rw [flat_get (n := W.length) (k := 2) (F := laidW W.length W) (fun i _ => laidW_length _ _ _) i 1 hi (by decide)]
    simp only [laidW, if_pos hi, hd]
    rfl
  have m1 : w.cell? ⟨g, i * 2 + 1, none⟩ = some (.int .i64 t) := (World.ownsRow.cellAt hO (i * 2 + 1) (by omega)).trans hz1
  have m2 := World.ownsRow.frozenAt hO (i * 2 + 1)
  have HS := hide (laidW_set (t := t + 1) hi (by rw [hd] : (W.getD i (0, 0)).1 = d))
  have HO := hide hO
  have hne : ¬ g = fb := fun e => hfar (by subst e; rfl)
  have hne' : ¬ fb = g := fun e => hne e.symm
  have hi0 : (0 : Int) ≤ (i : Int) := by omega
  have hi1 : (i : Int) < (W.length : Int) := by omega
  have hwr : IntKind.i64.wrap (t + 1) = t + 1 := by simp [IntKind.wrap, IntKind.signed, IntKind.bits]; omega
  clear hO hz1 hd hl hfar
  go_enter Tryz.func51, Tryz.ntmps51
  obtain ⟨⟨t0, t1, t2⟩, z0, -, -⟩ := hX
  go_wp2_with fail
  go_ret
  refine ⟨rfl, ?_, (Kept.one w g (i * 2 + 1) _).mono (fun b _ hb => by subst hb; rfl)⟩
  have h5 := (HO.out.stored (i * 2 + 1) (.int .i64 (t + 1))).1
  rw [HS.out] at h5
  have hln : (W.set i (d, t + 1)).length = W.length := by simp
  unfold OwnW
  rw [hln] at h5 ⊢
  exact h5
set_option maxRecDepth 100000 in
set_option maxHeartbeats 3200000 in
theorem l10Lose_full (B fb i : Nat) (wa : Option Addr) (wc : Nat) (W : List Wn) (fa : Option Addr) (fc fn : Nat) (u2 : Value) (d t : Int) (w : World) (hX : Bx3 w fb (.slice wa W.length wc) (.slice fa fn fc) u2) (hO : OwnW B w (.slice wa W.length wc) W) (hfar : (Value.slice wa W.length wc).ownBlock ≠ some fb) (hWl : W.length ≤ 1048576) (hi : i < W.length) (hd : W.getD i (0, 0) = (d, t)) (h0 : 0 ≤ t) (h9 : t ≤ 9) (h3 : ¬ t + 1 < 3) (h40 : 40 ≤ fn) :
    Calls Tryz.prog 51 #[.pointer (some ⟨fb, 0, none⟩), .int .i64 i] w fun e w' => e = .returned (.int .i64 2) ∧ Kept (fun b => (Value.slice wa W.length wc).ownBlock = some b) w w' := by
  obtain ⟨g, rfl, hc⟩ := ownsRow_addr hO (.inl (by omega))
  have hl := flat_length (n := W.length) (k := 2) (F := laidW W.length W) (fun i _ => laidW_length _ _ _)
  have hz1 : (flat W.length (laidW W.length W))[i * 2 + 1]? = some (.int .i64 t) := by
    rw [flat_get (n := W.length) (k := 2) (F := laidW W.length W) (fun i _ => laidW_length _ _ _) i 1 hi (by decide)]
    simp only [laidW, if_pos hi, hd]
    rfl
  have m1 : w.cell? ⟨g, i * 2 + 1, none⟩ = some (.int .i64 t) := (World.ownsRow.cellAt hO (i * 2 + 1) (by omega)).trans hz1
  have m2 := World.ownsRow.frozenAt hO (i * 2 + 1)
  have hne : ¬ g = fb := fun e => hfar (by subst e; rfl)
  have hne' : ¬ fb = g := fun e => hne e.symm
  have hi0 : (0 : Int) ≤ (i : Int) := by omega
  have hi1 : (i : Int) < (W.length : Int) := by omega
  have hwr : IntKind.i64.wrap (t + 1) = t + 1 := by simp [IntKind.wrap, IntKind.signed, IntKind.bits]; omega
  have hf0 : (40 : Int) ≤ (fn : Int) := by omega
  clear hO hz1 hd hl hfar
  go_enter Tryz.func51, Tryz.ntmps51
  obtain ⟨⟨t0, t1, t2⟩, z0, -, -⟩ := hX
  go_wp2_with fail
  go_ret
  exact ⟨rfl, (Kept.one w g (i * 2 + 1) _).mono (fun b _ hb => by subst hb; rfl)⟩
end Go.Proofs.YtfamiehfpmjljaaGreatDoor

namespace Go.Proofs.YtfamiehfpmjljaaGreatDoor
open Go.RowKit Go.Maps
set_option linter.unusedVariables false
set_option maxRecDepth 100000 in
set_option maxHeartbeats 6400000 in
theorem specLoseFetch_more (wa : Option Addr) (wk : Nat) (W : List Wn) (fa : Option Addr) (fc : Nat) (F : List Int) (ca : Option Addr) (cc n : Nat) (D : Nat → Int) (P : Nat → List Int) (d : Int) (w : World) (h : RdF w wa W fa F ca D P n) (hn : n ≤ 1048576) (hP : SmallP P n) (hWl : W.length ≤ 1048576) (hFl : F.length ≤ 1048576) (hfc : F.length ≤ fc) (hz : fetFault W F D P n = 0) (hPl : ∀ i, i < n → 0 < (P i).length ∧ (P i).length ≤ 1048576) (i : Nat) (t : Int) (hi : i < W.length) (hdi : W.getD i (0, 0) = (d, t)) (hfi : ∀ j, j < i → (W.getD j (0, 0)).1 ≠ d) (h0 : 0 ≤ t) (h3 : t + 1 < 3) :
    Calls Tryz.prog 34 #[fetV wa W.length wk fa F.length fc ca n cc, .int .i64 d] w (ResF 0 (W.set i (d, t + 1)) F D P n w) := by
  have B0 := hide (below_next (below_alloc w (.cells #[.slice wa W.length wk, .slice fa F.length fc, .slice ca n cc] 28)) (below_alloc _ (.cells #[.int .i64 0, .slice none 0 0, .slice none 0 0, .slice none 0 0] 32)))
  have X0 := hide ((Bx3.new w (.slice wa W.length wk) (.slice fa F.length fc) (.slice ca n cc) 28).below (below_alloc _ (.cells #[.int .i64 0, .slice none 0 0, .slice none 0 0, .slice none 0 0] 32)))
  have R0 := hide (Bx4.new (w.alloc (.cells #[.slice wa W.length wk, .slice fa F.length fc, .slice ca n cc] 28)) (.int .i64 0) (.slice none 0 0) (.slice none 0 0) (.slice none 0 0) 32)
  have hs : (w.alloc (.cells #[.slice wa W.length wk, .slice fa F.length fc, .slice ca n cc] 28)).heap.size = w.heap.size + 1 := by simp
  rw [hs] at R0
  clear hs
  have HFF := hide (l10Fault_any w.heap.size wa wk W fa fc F ca cc n D P _ X0.out (h.below B0.out) hn hP hWl hFl hfc)
  rw [hz] at HFF
  have HAT := hide (fun (u : World) (hb : Below w.heap.size w u) (hX : Bx3 u w.heap.size (.slice wa W.length wk) (.slice fa F.length fc) (.slice ca n cc)) => l10At_yes w.heap.size wa wk i W d u hX.1.1 (h.wants.below hb) hWl hi (by rw [hdi]) hfi)
  have HCP := hide (fun (u : World) (hb : Below w.heap.size w u) => l10Copy_any wa wk W fa fc F ca cc n D P u (h.below hb) hn hPl hWl hFl)
  have HDI := hide hdi
  have hi9 : ¬ (i : Int) < 0 := by omega
  clear h hP hz hdi hfi
  unfold fetV at HCP ⊢
  go_enter Tryz.func34, Tryz.ntmps34
  go_wp2_with fail
  generalize (w.alloc (.cells #[.slice wa W.length wk, .slice fa F.length fc, .slice ca n cc] 28)).alloc (.cells #[.int .i64 0, .slice none 0 0, .slice none 0 0, .slice none 0 0] 32) = W0 at *
  refine HFF.out.mono ?_
  rintro e w1 ⟨rfl, hb1⟩
  have B1 := hide (below_next B0.out hb1)
  have X1 := hide (X0.out.below hb1)
  have R1 := hide (R0.out.below hb1)
  clear hb1 X0 R0 B0 HFF
  go_wp2_with fail
  refine (HAT.out w1 B1.out X1.out).mono ?_
  rintro e w1 ⟨rfl, rfl⟩
  obtain ⟨⟨t0, t1, t2⟩, -, -, -⟩ := X1.out
  go_wp2_with fail
  clear t0 t1 t2
  refine (HCP.out w1 B1.out).mono ?_
  rintro e w2 ⟨xa, xc, ya, yc, za, zc, T, rfl, hW2, hF2, hG2, hT2, hxT, hyT, hb2⟩
  have hzw := B1.out.size
  have hz2 := hb2.size
  have hr1 := R1.out.lt
  have B2 := hide (below_next (below_next B1.out hb2) (below_alloc w2 (.cells #[.slice xa W.length xc, .slice ya F.length yc, .slice za n zc] 28)))
  have A2 := hide (below_alloc w2 (.cells #[.slice xa W.length xc, .slice ya F.length yc, .slice za n zc] 28))
  have N2 := hide (Bx3.new w2 (.slice xa W.length xc) (.slice ya F.length yc) (.slice za n zc) 28)
  have R2 := hide ((R1.out.below hb2).below A2.out)
  have W2 := hide (hW2.below A2.out)
  have F2 := hide (ownsRow_below hF2 A2.out)
  have G2 := hide (hG2.below A2.out)
  have D2 : Hid (RdF (w2.alloc (.cells #[.slice xa W.length xc, .slice ya F.length yc, .slice za n zc] 28)) xa W ya F za D P n) := hide ⟨(hW2.below A2.out).rd, reads_owned (ownsRow_below hF2 A2.out) rfl, (hG2.rd).below A2.out⟩
  have hyl : ∀ b, (Value.slice ya F.length yc).ownBlock = some b → b < w2.heap.size := fun b hb => (hF2.lt b hb).2
  have hxl : ∀ b, (Value.slice xa W.length xc).ownBlock = some b → b < w2.heap.size := fun b hb => (World.ownsRow.lt hW2 b hb).2
  have hsz3 : (w2.alloc (.cells #[.slice xa W.length xc, .slice ya F.length yc, .slice za n zc] 28)).heap.size = w2.heap.size + 1 := by simp
  have HYX := hide (And.intro hyl (And.intro hxl (And.intro hxT hsz3)))
  clear hb2 hW2 hF2 hG2 R1 HCP HAT X1 hyl hxl hxT hyT hsz3
  have HAS := hide (l10Lose_more w1.heap.size w2.heap.size i xa xc W _ _ d t _ N2.out W2.out (fun e => by have := HYX.out.2.1 _ e; omega) hWl hi HDI.out h0 h3)
  have hln : (W.set i (d, t + 1)).length = W.length := by simp
  go_wp2_with fail
  generalize w2.alloc (.cells #[.slice xa W.length xc, .slice ya F.length yc, .slice za n zc] 28) = w3 at *
  refine HAS.out.mono ?_
  rintro e w4 ⟨rfl, hW4, hK4⟩
  have hz4 := hK4.size
  have F4 := hide (ownsRow_kept F2.out hK4 (fun b hb e => rows_apart W2.out F2.out (by decide) e hb))
  have G4 := hide (G2.out.kept hK4 (fun b h1 h2 e => by have := HYX.out.2.2.1 b e; omega))
  have B4 := hide (B2.out.trans (hK4.below (B := w.heap.size) B2.out.size (fun k hk e => by have := (World.ownsRow.lt W2.out k e).1; omega)))
  have R4 := hide (R2.out.kept hK4 (fun e => by have := (World.ownsRow.lt W2.out _ e).1; omega))
  have N4 := hide (N2.out.kept hK4 (fun e => by have := HYX.out.2.1 _ e; omega))
  rw [← hln] at hW4
  have W4 := hide hW4
  obtain ⟨⟨s0, s1, s2⟩, -, -, -⟩ := N4.out
  obtain ⟨⟨m0, m1, m2, m3⟩, k0, k1, k2, k3⟩ := R4.out
  clear hW4 hK4
  go_wp2_with fail
  rw [← hln]
  exact bodyPost_ret (v := .agg #[.int .i64 0, .slice xa (W.set i (d, t + 1)).length xc, .slice ya F.length yc, .slice za n zc]) (by simp [results, Tryz.results34, go_sem, m0, m1, m2, m3]) rfl (ResF.box (B := w1.heap.size) W4.out F4.out ((G4.out.mono hT2).wide (by have := HYX.out.2.2.2; omega)) B4.out (by omega) (by omega))
set_option maxRecDepth 100000 in
set_option maxHeartbeats 6400000 in
theorem specLoseFetch_full (wa : Option Addr) (wk : Nat) (W : List Wn) (fa : Option Addr) (fc : Nat) (F : List Int) (ca : Option Addr) (cc n : Nat) (D : Nat → Int) (P : Nat → List Int) (d : Int) (w : World) (h : RdF w wa W fa F ca D P n) (hn : n ≤ 1048576) (hP : SmallP P n) (hWl : W.length ≤ 1048576) (hFl : F.length ≤ 1048576) (hfc : F.length ≤ fc) (hz : fetFault W F D P n = 0) (hPl : ∀ i, i < n → 0 < (P i).length ∧ (P i).length ≤ 1048576) (i : Nat) (t : Int) (hi : i < W.length) (hdi : W.getD i (0, 0) = (d, t)) (hfi : ∀ j, j < i → (W.getD j (0, 0)).1 ≠ d) (h0 : 0 ≤ t) (h9 : t ≤ 9) (h3 : ¬ t + 1 < 3) (h40 : 40 ≤ F.length) :
    Calls Tryz.prog 34 #[fetV wa W.length wk fa F.length fc ca n cc, .int .i64 d] w (ResF 2 [] [] D P 0 w) := by
  have B0 := hide (below_next (below_alloc w (.cells #[.slice wa W.length wk, .slice fa F.length fc, .slice ca n cc] 28)) (below_alloc _ (.cells #[.int .i64 0, .slice none 0 0, .slice none 0 0, .slice none 0 0] 32)))
  have X0 := hide ((Bx3.new w (.slice wa W.length wk) (.slice fa F.length fc) (.slice ca n cc) 28).below (below_alloc _ (.cells #[.int .i64 0, .slice none 0 0, .slice none 0 0, .slice none 0 0] 32)))
  have R0 := hide (Bx4.new (w.alloc (.cells #[.slice wa W.length wk, .slice fa F.length fc, .slice ca n cc] 28)) (.int .i64 0) (.slice none 0 0) (.slice none 0 0) (.slice none 0 0) 32)
  have hs : (w.alloc (.cells #[.slice wa W.length wk, .slice fa F.length fc, .slice ca n cc] 28)).heap.size = w.heap.size + 1 := by simp
  rw [hs] at R0
  clear hs
  have HFF := hide (l10Fault_any w.heap.size wa wk W fa fc F ca cc n D P _ X0.out (h.below B0.out) hn hP hWl hFl hfc)
  rw [hz] at HFF
  have HAT := hide (fun (u : World) (hb : Below w.heap.size w u) (hX : Bx3 u w.heap.size (.slice wa W.length wk) (.slice fa F.length fc) (.slice ca n cc)) => l10At_yes w.heap.size wa wk i W d u hX.1.1 (h.wants.below hb) hWl hi (by rw [hdi]) hfi)
  have HCP := hide (fun (u : World) (hb : Below w.heap.size w u) => l10Copy_any wa wk W fa fc F ca cc n D P u (h.below hb) hn hPl hWl hFl)
  have HDI := hide hdi
  have hi9 : ¬ (i : Int) < 0 := by omega
  clear h hP hz hdi hfi
  unfold fetV at HCP ⊢
  go_enter Tryz.func34, Tryz.ntmps34
  go_wp2_with fail
  generalize (w.alloc (.cells #[.slice wa W.length wk, .slice fa F.length fc, .slice ca n cc] 28)).alloc (.cells #[.int .i64 0, .slice none 0 0, .slice none 0 0, .slice none 0 0] 32) = W0 at *
  refine HFF.out.mono ?_
  rintro e w1 ⟨rfl, hb1⟩
  have B1 := hide (below_next B0.out hb1)
  have X1 := hide (X0.out.below hb1)
  have R1 := hide (R0.out.below hb1)
  clear hb1 X0 R0 B0 HFF
  go_wp2_with fail
  refine (HAT.out w1 B1.out X1.out).mono ?_
  rintro e w1 ⟨rfl, rfl⟩
  obtain ⟨⟨t0, t1, t2⟩, -, -, -⟩ := X1.out
  go_wp2_with fail
  clear t0 t1 t2
  refine (HCP.out w1 B1.out).mono ?_
  rintro e w2 ⟨xa, xc, ya, yc, za, zc, T, rfl, hW2, hF2, hG2, hT2, hxT, hyT, hb2⟩
  have hzw := B1.out.size
  have hz2 := hb2.size
  have hr1 := R1.out.lt
  have B2 := hide (below_next (below_next B1.out hb2) (below_alloc w2 (.cells #[.slice xa W.length xc, .slice ya F.length yc, .slice za n zc] 28)))
  have A2 := hide (below_alloc w2 (.cells #[.slice xa W.length xc, .slice ya F.length yc, .slice za n zc] 28))
  have N2 := hide (Bx3.new w2 (.slice xa W.length xc) (.slice ya F.length yc) (.slice za n zc) 28)
  have R2 := hide ((R1.out.below hb2).below A2.out)
  have W2 := hide (hW2.below A2.out)
  have F2 := hide (ownsRow_below hF2 A2.out)
  have G2 := hide (hG2.below A2.out)
  have D2 : Hid (RdF (w2.alloc (.cells #[.slice xa W.length xc, .slice ya F.length yc, .slice za n zc] 28)) xa W ya F za D P n) := hide ⟨(hW2.below A2.out).rd, reads_owned (ownsRow_below hF2 A2.out) rfl, (hG2.rd).below A2.out⟩
  have hyl : ∀ b, (Value.slice ya F.length yc).ownBlock = some b → b < w2.heap.size := fun b hb => (hF2.lt b hb).2
  have hxl : ∀ b, (Value.slice xa W.length xc).ownBlock = some b → b < w2.heap.size := fun b hb => (World.ownsRow.lt hW2 b hb).2
  have hsz3 : (w2.alloc (.cells #[.slice xa W.length xc, .slice ya F.length yc, .slice za n zc] 28)).heap.size = w2.heap.size + 1 := by simp
  have HYX := hide (And.intro hyl (And.intro hxl (And.intro hxT hsz3)))
  clear hb2 hW2 hF2 hG2 R1 HCP HAT X1 hyl hxl hxT hyT hsz3
  have HAS := hide (l10Lose_full w1.heap.size w2.heap.size i xa xc W ya yc F.length _ d t _ N2.out W2.out (fun e => by have := HYX.out.2.1 _ e; omega) hWl hi HDI.out h0 h9 (by omega) h40)
  go_wp2_with fail
  generalize w2.alloc (.cells #[.slice xa W.length xc, .slice ya F.length yc, .slice za n zc] 28) = w3 at *
  refine HAS.out.mono ?_
  rintro e w4 ⟨rfl, hK4⟩
  have hz4 := hK4.size
  have B4 := hide (B2.out.trans (hK4.below (B := w.heap.size) B2.out.size (fun k hk e => by have := (World.ownsRow.lt W2.out k e).1; omega)))
  have R4 := hide (R2.out.kept hK4 (fun e => by have := (World.ownsRow.lt W2.out _ e).1; omega))
  clear hK4
  go_wp2_with fail
  refine (l10Bad_any 2 w4).mono ?_
  rintro e w9 ⟨rfl, hb9⟩
  have B9 := hide (below_next B4.out hb9)
  obtain ⟨⟨m0, m1, m2, m3⟩, k0, k1, k2, k3⟩ := R4.out.below hb9
  clear hb9
  go_wp2_with fail
  have hk := Kept.fourF w9 (w.heap.size + 1) (.int .i64 2) (.slice none 0 0) (.slice none 0 0) (.slice none 0 0)
  exact bodyPost_ret (v := .agg #[.int .i64 2, .slice none 0 0, .slice none 0 0, .slice none 0 0]) (by simp [results, Tryz.results34, go_sem, m0, m1, m2, m3]) rfl (ResF.bad (B9.out.trans (hk.below (B := w.heap.size) B9.out.size (fun k hk e => by omega))))
end Go.Proofs.YtfamiehfpmjljaaGreatDoor

