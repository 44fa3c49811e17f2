/-
  Texts put together: FetAh.
-/
import Derived.Test.YtejfcapocikjmaaGreatDoorKAsksCa19
namespace Go.Proofs.YtejfcapocikjmaaGreatDoor
open Go.RowKit Go.Maps
set_option linter.unusedVariables false
structure StB (p : Nat) (zs : List Int) (w : World) (fb z2 : Nat) (wa : Option Addr) (wk : Nat) (W : List Wn) (fa : Option Addr) (fc : Nat) (F : List Int) (ca : Option Addr) (cc n : Nat) (D : Nat → Int) (P : Nat → List Int) (u : World) (T : Int) : Prop where
  x : Bx3 u fb (.slice wa W.length wk) (.slice fa F.length fc) (.slice ca n cc)
  r : Bx3 u w.heap.size (.slice none 0 0) (.slice none 0 0) (.slice none 0 0)
  g : GF (w.heap.size + 1) fb u wa wk W fa fc F ca cc n D P
  s : SrcX u p zs T
  k : Kept (fun b => b = p) w u
  z : z2 ≤ u.heap.size
theorem bent_pick {p : Nat} {zs : List Int} {w v u : World} {fb z2 G : Nat} {wa : Option Addr} {wk : Nat} {W : List Wn} {fa : Option Addr} {fc : Nat} {F : List Int} {ca : Option Addr} {cc n : Nat} {D : Nat → Int} {P : Nat → List Int} {T a b : Int} (h : StB p zs w fb z2 wa wk W fa fc F ca cc n D P v T) (hu : U8 zs) (hT : T ≤ 1000000) (hl : zs.length ≤ 1048576) (hp : p < w.heap.size) (hfb : w.heap.size < fb ∧ fb < z2) (hb : Below v.heap.size v u) (hG0 : z2 ≤ G) (hG : G < u.heap.size) (ha : u.cell? ⟨G, 0, none⟩ = some (.int .i64 a)) (hbb : u.cell? ⟨G, 1, none⟩ = some (.int .i64 b)) :
    Calls Tryz.prog 36 #[.pointer (some ⟨p, 0, none⟩), .slice (some ⟨G, 0, none⟩) 2 2] u fun e w' => ∃ x, e = .returned (.int .i64 x) ∧ StB p zs w fb z2 wa wk W fa fc F ca cc n D P w' (T + 1) ∧ (∀ q i c, z2 ≤ q → u.cell? ⟨q, i, none⟩ = some c → w'.cell? ⟨q, i, none⟩ = some c) ∧ u.heap.size ≤ w'.heap.size := by
  have hc : ∀ i, i < 2 → u.cell? ⟨G, i, none⟩ = some (.int .i64 ([a, b].getD i 0)) := by
    intro i hi
    have : i = 0 ∨ i = 1 := by omega
    rcases this with rfl | rfl
    · exact ha
    · exact hbb
  refine (pick_e p G 2 2 [a, b] zs T u (h.s.below hb) hu hT (by omega) (by decide) (by decide) rfl (by omega) hG hc).mono ?_
  rintro e w' ⟨x, _, rfl, s1, k1⟩
  refine ⟨x, rfl, ⟨(h.x.below hb).kept k1 (by omega), (h.r.below hb).kept k1 (by omega), (h.g.below hb).kept k1 (fun b h1 _ e => by omega), s1, (h.k.trans (Kept.of_below hb)).trans k1, Nat.le_trans h.z (Nat.le_trans hb.size k1.size)⟩, ?_, k1.size⟩
  intro q i c hq hqc
  rw [k1.cell (World.block_lt_of_cell? u ⟨q, i, none⟩ hqc) (by show ¬ q = p; omega)]
  exact hqc
set_option maxRecDepth 100000 in
set_option maxHeartbeats 12800000 in
theorem l10Bent_e (p : Nat) (zs : List Int) (T : Int) (w : World) (h : SrcX w p zs T) (hu : U8 zs) (hT : T ≤ 500) (hl : zs.length ≤ 1048576) :
    Calls Tryz.prog 13 #[.pointer (some ⟨p, 0, none⟩)] w fun e w' => ∃ wa wk W fa fc F ca cc n D P, e = .returned (.agg #[.slice wa W.length wk, .slice fa F.length fc, .slice ca n cc]) ∧ OF w.heap.size w' wa wk W fa fc F ca cc n D P ∧ Sm W F P n ∧ SrcX w' p zs (T + 600) ∧ Kept (fun b => b = p) w w' := by
  obtain ⟨i0, ki0, kz0, kz1, kz2⟩ := info_parts Tryz.infoI64
  obtain ⟨i1, kj, kw0, kw1, kw2⟩ := info_parts Tryz.infoWn
  have hp := h.lt
  have B0 := hide (below_alloc w (.cells #[.slice none 0 0, .slice none 0 0, .slice none 0 0] 28))
  have R0 := hide (Bx3.new w (.slice none 0 0) (.slice none 0 0) (.slice none 0 0) 28)
  have HS := hide (h.below B0.out)
  have HU := hide hu
  have HZ0 : Hid ((w.alloc (.cells #[.slice none 0 0, .slice none 0 0, .slice none 0 0] 28)).heap.size = w.heap.size + 1) := hide (by simp)
  clear h hu
  go_enter Tryz.func13, Tryz.ntmps13
  go_wp2_with fail
  generalize w.alloc (.cells #[.slice none 0 0, .slice none 0 0, .slice none 0 0] 28) = W0 at *
  refine (l10Right_e p zs T W0 HS.out HU.out (by omega) (by omega)).mono ?_
  rintro e w1 ⟨wa, wk, W, fa, fc, F, ca, cc, n, D, P, rfl, hg1, hn1, s1, k1⟩
  have hz1 := k1.size
  have hzw : w.heap.size + 1 ≤ w1.heap.size := by have := HZ0.out; omega
  have NN := hide hn1
  have A1 := hide (below_alloc w1 (.cells #[.slice wa W.length wk, .slice fa F.length fc, .slice ca n cc] 28))
  have X1 := hide (Bx3.new w1 (.slice wa W.length wk) (.slice fa F.length fc) (.slice ca n cc) 28)
  have G1' := hide ((hg1.below A1.out).wide (B' := w.heap.size + 1) (by have := HZ0.out; omega) (Nat.le_refl w1.heap.size))
  have R1 := hide ((R0.out.kept k1 (by omega)).below A1.out)
  have S1 := hide (s1.below A1.out)
  have K1 := hide ((Kept.of_below B0.out).trans (k1.trans (Kept.of_below A1.out)))
  have HZ1 : Hid ((w1.alloc (.cells #[.slice wa W.length wk, .slice fa F.length fc, .slice ca n cc] 28)).heap.size = w1.heap.size + 1) := hide (by simp)
  clear hg1 hn1 s1 k1 R0 HS B0 HZ0 hz1 A1
  go_wp2_with fail
  generalize w1.alloc (.cells #[.slice wa W.length wk, .slice fa F.length fc, .slice ca n cc] 28) = W1 at *
  obtain ⟨fb, hfb⟩ : ∃ fb, fb = w1.heap.size := ⟨_, rfl⟩
  rw [← hfb] at X1 G1' hzw HZ1 ⊢
  clear hfb
  have hzW1 : fb + 1 ≤ W1.heap.size := by have := HZ1.out; omega
  refine (next_e p zs _ 18 W1 S1.out HU.out (by omega) (by decide) (by decide) (by omega)).mono ?_
  rintro e w2 ⟨v, rfl, hv18, s2, k2⟩
  have hz2 := k2.size
  have hfbW : fb < w2.heap.size := by omega
  have X2 := hide (X1.out.kept k2 (by omega))
  have R2 := hide (R1.out.kept k2 (by omega))
  have G2 := hide (G1'.out.kept k2 (fun b h1 _ e => by omega))
  have K2 := hide (K1.out.trans k2)
  have S2 : Hid (SrcX w2 p zs (T + 98)) := hide (s2.mono (by omega))
  clear s2 k2 X1 G1' R1 K1 S1 HZ1 hzW1 hz2
  -- how each way ends
  have HE : Hid (∀ (u : World) (ya : Option Addr) (yk : Nat) (W' : List Wn) (za : Option Addr) (zc : Nat) (F' : List Int) (da : Option Addr) (dc n' : Nat) (D' : Nat → Int) (P' : Nat → List Int), OF (w.heap.size + 1) u ya yk W' za zc F' da dc n' D' P' → Sm W' F' P' n' → SrcX u p zs (T + 600) → Kept (fun b => b = p) w u → w.heap.size + 1 ≤ u.heap.size →
      ∃ wa wk W fa fc F ca cc n D P, Ending.returned (.agg #[.slice ya W'.length yk, .slice za F'.length zc, .slice da n' dc]) = .returned (.agg #[.slice wa (List.length W) wk, .slice fa (List.length F) fc, .slice ca n cc]) ∧ OF w.heap.size (((u.setCell ⟨w.heap.size, 0, none⟩ (.slice ya W'.length yk)).setCell ⟨w.heap.size, 1, none⟩ (.slice za F'.length zc)).setCell ⟨w.heap.size, 2, none⟩ (.slice da n' dc)) wa wk W fa fc F ca cc n D P ∧ Sm W F P n ∧ SrcX (((u.setCell ⟨w.heap.size, 0, none⟩ (.slice ya W'.length yk)).setCell ⟨w.heap.size, 1, none⟩ (.slice za F'.length zc)).setCell ⟨w.heap.size, 2, none⟩ (.slice da n' dc)) p zs (T + 600) ∧ Kept (fun b => b = p) w (((u.setCell ⟨w.heap.size, 0, none⟩ (.slice ya W'.length yk)).setCell ⟨w.heap.size, 1, none⟩ (.slice za F'.length zc)).setCell ⟨w.heap.size, 2, none⟩ (.slice da n' dc))) := hide (by
    intro u ya yk W' za zc F' da dc n' D' P' hO hSm hS hK hz
    have hk := Kept.threeF u w.heap.size (.slice ya W'.length yk) (.slice za F'.length zc) (.slice da n' dc)
    exact ⟨ya, yk, W', za, zc, F', da, dc, n', D', P', rfl, (hO.kept hk (fun b h1 e => by omega)).mono (by omega), hSm, hS.kept hk (fun b hb e => by omega), hK.trans_own hk (fun b hb e => by omega)⟩)
  obtain ⟨⟨x0, x1, x2⟩, x3, x4, x5⟩ := X2.out
  obtain ⟨⟨m0, m1, m2⟩, k0, k1, k2⟩ := R2.out
  have hv : v = 0 ∨ v = 1 ∨ v = 2 ∨ v = 3 ∨ v = 4 ∨ 5 ≤ v := by omega
  rcases hv with hv | hv | hv | hv | hv | hv
  · subst hv
    have hm1 : W.length + 1 ≤ maxLen := by unfold maxLen; have := NN.out.sm.sw; omega
    have hm2 : (W.length + 1) * 16 ≤ 140737488355328 := by have := NN.out.sm.sw; omega
    have Q2 := hide (StB.mk (p := p) (zs := zs) (T := T + 98) X2.out R2.out G2.out S2.out K2.out (Nat.le_refl w2.heap.size))
    have PK := hide (fun (v u : World) (G : Nat) (a b t : Int) (ht : t ≤ T + 200) (h : StB p zs w fb w2.heap.size wa wk W fa fc F ca cc n D P v t) => bent_pick (G := G) (u := u) (a := a) (b := b) h HU.out (by omega) hl (by omega) (by omega))
    clear x3 x4 x5 m0 m1 m2 k0 k1 k2
    go_upto_block 0 with fail
    go_cut [7] from 8 to 56 (fun v7 wk' => v7 = .int .i64 0 ∧ ∃ (va vb : Int) (av5 : Option Addr) (cv5 : Nat), Hid (Bx3 wk' fb (.slice av5 (W.length + 1) cv5) (.slice fa F.length fc) (.slice ca n cc)) ∧ Hid (Bx3 wk' w.heap.size (.slice none 0 0) (.slice none 0 0) (.slice none 0 0)) ∧ Hid (OwnW (w.heap.size + 1) wk' (.slice av5 (W.length + 1) cv5) (W ++ [(va, vb)])) ∧ Hid (wk'.ownsRow (w.heap.size + 1) 2 1 (.slice fa F.length fc) F.length (F.map (Value.int .i64))) ∧ Hid (GC (w.heap.size + 1) fb wk' (.slice ca n cc) D P n) ∧ Hid (SrcX wk' p zs (T + 600)) ∧ Hid (Kept (fun b => b = p) w wk') ∧ w2.heap.size ≤ wk'.heap.size)
    case first =>
     go_upto_region 4 with fail
     go_region_law
      ((first
        | (refine step_append_own (by rfl) (.tmp 11) (.tmp 19) 24 (by rfl) (w.heap.size + 1) 78 i1 (.agg #[.int .i64 0, .int .i64 0]) 2 16 Tryz.underlying24 kj kw0 kw1 kw2 rfl (by decide) (.slice wa W.length wk) W.length (flat W.length (laidW W.length W)) (by rfl) (World.ownsRow.alloc G4.out.wants _) ⟨w4.heap.size, 0, none⟩ 1 1 [.int .i64 va, .int .i64 vb] (by rfl) (by rfl) (news2w (by rfl)) (by intro u hu; simp at hu; rcases hu with rfl | rfl <;> rfl) (W.length + 1) rfl hm1 hm2 (by simp; omega) ?_; intro av5 cv5 w5 hown5 hk5; have O5 := hide hown5; have X5 := hide ((X4.out.below (below_alloc w4 (.cells #[.int .i64 va, .int .i64 vb] 78))).kept hk5 (fun e => by have := G2.out.wlt _ e; omega)); have R5 := hide ((R4.out.below (below_alloc w4 (.cells #[.int .i64 va, .int .i64 vb] 78))).kept hk5 (fun e => by have := (World.ownsRow.lt G4.out.wants _ e).1; omega)); have S5 := hide ((S4.out.below (below_alloc w4 (.cells #[.int .i64 va, .int .i64 vb] 78))).kept hk5 (fun b hb e => by have := (World.ownsRow.lt G4.out.wants _ e).1; omega)); have F5 := hide (ownsRow_kept (ownsRow_below G4.out.failed.1 (below_alloc w4 (.cells #[.int .i64 va, .int .i64 vb] 78))) hk5 (fun b hb e => rows_apart G4.out.wants G4.out.failed.1 (by decide) e hb)); have C5 := hide ((G4.out.chunks.below (below_alloc w4 (.cells #[.int .i64 va, .int .i64 vb] 78))).kept_row (OwnW.below G4.out.wants (below_alloc w4 (.cells #[.int .i64 va, .int .i64 vb] 78))) (by decide) (by decide) hk5); have K5 := hide ((K4.out.trans (Kept.of_below (below_alloc w4 (.cells #[.int .i64 va, .int .i64 vb] 78)))).trans_own hk5 (fun b hb e => by have := (World.ownsRow.lt G4.out.wants _ e).1; omega)); have hz5 : w2.heap.size ≤ w5.heap.size := Nat.le_trans hz4 (Nat.le_trans (below_alloc w4 (.cells #[.int .i64 va, .int .i64 vb] 78)).size hk5.size); clear hown5 hk5; obtain ⟨⟨y0, y1, y2⟩, y3, y4, y5⟩ := X5.out; obtain ⟨⟨m0, m1, m2⟩, k0, k1, k2⟩ := R5.out)
        | (go_simp; go_wp2_with (go_at_call 36; first | (have _ := hz3; refine (PK.out w3 _ _ 0 3 _ (by omega) Q3.out (by first | exact Below.refl _ _ | exact (Below.refl _ _).drew | exact ((Below.refl _ _).alloc (Nat.le_refl _) _).drew | exact ((Below.refl _ _).alloc (Nat.le_refl _) _)) (by first | omega | (have := Q3.out.z; omega)) (by first | exact Nat.lt_of_lt_of_le (by first | (simp; done) | (simp; omega) | (show _ < (World.alloc _ _).heap.size; simp; done) | (show _ < (World.alloc (World.alloc _ _) _).heap.size; simp; done) | (show _ < (World.alloc (World.alloc _ _) _).heap.size; simp; omega)) hz3.out | (simp; done) | (show _ < (World.alloc _ _).heap.size; simp; done)) (by first | exact CK3.out _ _ _ (by omega) (by first | (simp; done) | (show World.cell? (World.alloc _ _) _ = _; simp; done) | (show World.cell? (World.alloc (World.alloc _ _) _) _ = _; simp; done)) | (simp; done) | (show World.cell? (World.alloc _ _) _ = _; simp; done)) (by first | exact CK3.out _ _ _ (by omega) (by first | (simp; done) | (show World.cell? (World.alloc _ _) _ = _; simp; done) | (show World.cell? (World.alloc (World.alloc _ _) _) _ = _; simp; done)) | (simp; done) | (show World.cell? (World.alloc _ _) _ = _; simp; done))).mono ?_; rintro r w4 ⟨vb, rfl, Q4', CK4, hz4'⟩; have Q4 := hide Q4'; clear Q4' CK4 hz4'; have X4 := hide Q4.out.x; have R4 := hide Q4.out.r; have G4 := hide Q4.out.g; have S4 := hide Q4.out.s; have K4 := hide Q4.out.k; have hz4 := Q4.out.z; have d3 := Q4.out.x.1.1; have d4 : ∀ o, (w4.alloc o).cell? ⟨fb, 0, none⟩ = some (.slice wa W.length wk) := (fun o => (Q4.out.x.below (below_alloc w4 o)).1.1)) | (refine (PK.out w2 _ _ (-1) 5 _ (by omega) Q2.out (by first | exact ((Below.refl _ _).alloc (Nat.le_refl _) _).drew | exact (((Below.refl _ _).alloc (Nat.le_refl _) _).alloc (by simp) _).drew | exact ((Below.refl _ _).alloc (Nat.le_refl _) _) | exact (((Below.refl _ _).alloc (Nat.le_refl _) _).alloc (by simp) _)) (by omega) (by first | (simp; done) | (simp; omega) | (show _ < (World.alloc _ _).heap.size; simp; done) | (show _ < (World.alloc (World.alloc _ _) _).heap.size; simp; done) | (show _ < (World.alloc (World.alloc _ _) _).heap.size; simp; omega)) (by first | (simp; done) | (show World.cell? (World.alloc _ _) _ = _; simp; done) | (show World.cell? (World.alloc (World.alloc _ _) _) _ = _; simp; done)) (by first | (simp; done) | (show World.cell? (World.alloc _ _) _ = _; simp; done) | (show World.cell? (World.alloc (World.alloc _ _) _) _ = _; simp; done))).mono ?_; rintro r w3 ⟨va, rfl, Q3', CK3', hz3'⟩; have Q3 := hide Q3'; have CK3 := hide CK3'; have hz3 := hide hz3'; clear Q3' CK3' hz3'; have c3 := Q3.out.x.1.1; have c4 : ∀ o, (w3.alloc o).cell? ⟨fb, 0, none⟩ = some (.slice wa W.length wk) := (fun o => (Q3.out.x.below (below_alloc w3 o)).1.1))))))
     all_goals
       go_wp2_with fail
       go_meet
       case rel =>
        have hk6 := Kept.one w5 fb 0 (.slice av5 (W.length + 1) cv5)
        have hz6 : (w5.setCell ⟨fb, 0, none⟩ (.slice av5 (W.length + 1) cv5)).heap.size = w5.heap.size := by simp [World.setCell]
        have hO7 : OwnW (w.heap.size + 1) w5 (.slice av5 (W.length + 1) cv5) (W ++ [(va, vb)]) := OwnW.push (by simpa using O5.out)
        exact ⟨rfl, va, vb, av5, cv5, hide (X5.out.set0 _), hide (R5.out.kept hk6 (by omega)), hide (ownsRow_kept hO7 hk6 (fun b hb e => rowW_far hO7 (by simp) y0 b hb e)), hide (ownsRow_kept F5.out hk6 (fun b hb e => by have := G2.out.failed.2 b hb; omega)), hide (C5.out.kept hk6 (fun b h1 h2 e => by omega)), hide ((S5.out.kept hk6 (fun b hb e => by omega)).mono (by omega)), hide (K5.out.trans_own hk6 (fun b hb e => by omega)), by rw [hz6]; omega⟩
    case rest =>
      obtain ⟨rfl, va, vb, av5, cv5, X6, R6, W6, F6, C6, S6, K6, hz6⟩ := hcut
      obtain ⟨WW, hWW⟩ : ∃ x, x = wc := ⟨_, rfl⟩
      subst hWW
      clear x0 x1 x2
      obtain ⟨⟨x0, x1, x2⟩, x3, x4, x5⟩ := X6.out
      obtain ⟨⟨m0, m1, m2⟩, k0, k1, k2⟩ := R6.out
      have hwl : (W ++ [(va, vb)]).length = W.length + 1 := by simp
      go_wp2_with fail
      have hE := HE.out WW av5 cv5 (W ++ [(va, vb)]) fa fc F ca cc n D P ⟨by rw [hwl]; exact W6.out, F6.out, C6.out.ga⟩
        ⟨by have := NN.out.fit.wmany; simp; omega, by have := NN.out.sm.sf; omega, by have := NN.out.sm.sn; omega, NN.out.small⟩ S6.out K6.out (by omega)
      rw [hwl] at hE
      exact bodyPost_ret (v := .agg #[.slice av5 (W.length + 1) cv5, .slice fa F.length fc, .slice ca n cc]) (by simp [results, Tryz.results13, go_sem, m0, m1, m2]) rfl hE
  · subst hv
    have hm1 : F.length + 1 ≤ maxLen := by unfold maxLen; have := NN.out.sm.sf; omega
    have hm2 : (F.length + 1) * 8 ≤ 140737488355328 := by have := NN.out.sm.sf; omega
    have A2 := hide (below_alloc w2 (.cells #[.int .i64 (-1), .int .i64 5] 2)).drew
    have S2' := hide (S2.out.below A2.out)
    have X2' := hide (X2.out.below A2.out)
    have R2' := hide (R2.out.below A2.out)
    have G2' := hide (G2.out.below A2.out)
    have K2' := hide (K2.out.trans (Kept.of_below A2.out))
    have CC : Hid (∀ i, i < 2 → (w2.alloc (.cells #[.int .i64 (-1), .int .i64 5] 2)).drew.cell? ⟨w2.heap.size, i, none⟩ = some (.int .i64 ([(-1 : Int), 5].getD i 0))) := hide (cells2f w2 (-1) 5 2)
    have hzl : w2.heap.size < (w2.alloc (.cells #[.int .i64 (-1), .int .i64 5] 2)).drew.heap.size := by show w2.heap.size < (w2.alloc (.cells #[.int .i64 (-1), .int .i64 5] 2)).heap.size; simp
    clear x3 x4 x5 m0 m1 m2 k0 k1 k2
    go_upto_region 6 with fail
    go_region_law
      ((first
        | (refine step_append_own (by rfl) (.tmp 25) (.tmp 29) 25 (by rfl) (w.heap.size + 1) 2 i0 (.int .i64 0) 1 8 Tryz.underlying25 ki0 kz0 kz1 kz2 rfl (by decide) (.slice fa F.length fc) F.length (F.map (Value.int .i64)) (by rfl) (G3.out.failed.1.alloc _) ⟨w3.heap.size, 0, none⟩ 1 1 [.int .i64 vv] (by rfl) (by rfl) (news1 (by rfl)) (by intro u hu; simp at hu; subst hu; rfl) (F.length + 1) rfl hm1 hm2 (by simp; omega) ?_; intro av4 cv4 w4 hown4 hk4; have O4 := hide hown4; have X4 := hide ((X3.out.below (below_alloc w3 (.cells #[.int .i64 vv] 2))).kept hk4 (fun e => by have := G2.out.failed.2 _ e; omega)); have R4 := hide ((R3.out.below (below_alloc w3 (.cells #[.int .i64 vv] 2))).kept hk4 (fun e => by have := (G3.out.failed.1.lt _ e).1; omega)); have S4 := hide ((S3.out.below (below_alloc w3 (.cells #[.int .i64 vv] 2))).kept hk4 (fun b hb e => by have := (G3.out.failed.1.lt _ e).1; omega)); have W4 := hide (ownsRow_kept (OwnW.below G3.out.wants (below_alloc w3 (.cells #[.int .i64 vv] 2))) hk4 (fun b hb e => rows_apart G3.out.wants G3.out.failed.1 (by decide) hb e)); have C4 := hide ((G3.out.chunks.below (below_alloc w3 (.cells #[.int .i64 vv] 2))).kept_row (G3.out.failed.1.alloc _) (by decide) (by decide) hk4); have K4 := hide ((K3.out.trans (Kept.of_below (below_alloc w3 (.cells #[.int .i64 vv] 2)))).trans_own hk4 (fun b hb e => by have := (G3.out.failed.1.lt _ e).1; omega)); have hz4 := hk4.size; clear hown4 hk4; obtain ⟨⟨y0, y1, y2⟩, y3, y4, y5⟩ := X4.out; obtain ⟨⟨m0, m1, m2⟩, k0, k1, k2⟩ := R4.out)
        | (go_simp; go_wp2_with (go_at_call 36; refine (pick_e p w2.heap.size 2 2 [-1, 5] zs _ _ S2'.out HU.out (by omega) (by omega) (by decide) (by decide) rfl (by omega) hzl CC.out).mono ?_; rintro r w3 ⟨vv, hvv, rfl, s3, k3⟩; have hz3 : w2.heap.size ≤ w3.heap.size := Nat.le_of_lt (Nat.lt_of_lt_of_le hzl k3.size); have S3 := hide s3; have X3 := hide (X2'.out.kept k3 (by omega)); have R3 := hide (R2'.out.kept k3 (by omega)); have G3 := hide (G2'.out.kept k3 (fun b h1 _ e => by omega)); have K3 := hide (K2'.out.trans k3); have c3 := X3.out.1.2.1; have c4 : ∀ o, (w3.alloc o).cell? ⟨fb, 1, none⟩ = some (.slice fa F.length fc) := (fun o => (X3.out.below (below_alloc w3 o)).1.2.1); clear s3 k3))))
    all_goals
      go_wp2_with fail
      have hk5 := Kept.one w4 fb 1 (.slice av4 (F.length + 1) cv4)
      have hz5 : (w4.setCell ⟨fb, 1, none⟩ (.slice av4 (F.length + 1) cv4)).heap.size = w4.heap.size := by simp [World.setCell]
      have hfl : (F ++ [vv]).length = F.length + 1 := by simp
      have hO6 : w4.ownsRow (w.heap.size + 1) 2 1 (.slice av4 (F.length + 1) cv4) (F.length + 1) ((F ++ [vv]).map (Value.int .i64)) := by simpa using O4.out
      have hE := HE.out (w4.setCell ⟨fb, 1, none⟩ (.slice av4 (F.length + 1) cv4)) wa wk W av4 cv4 (F ++ [vv]) ca cc n D P
        ⟨ownsRow_kept W4.out hk5 (fun b hb e => by have := G2.out.wlt b hb; omega), by rw [hfl]; exact ownsRow_kept hO6 hk5 (fun b hb e => row_far hO6 (by omega) (by simp) y0 b hb e), (C4.out.kept hk5 (fun b h1 h2 e => by omega)).ga⟩
        ⟨by have := NN.out.sm.sw; omega, by have := NN.out.fit.fmany; simp; omega, by have := NN.out.sm.sn; omega, NN.out.small⟩ ((S4.out.kept hk5 (fun b hb e => by omega)).mono (by omega)) (K4.out.trans_own hk5 (fun b hb e => by omega)) (by rw [hz5]; simp at hz4; omega)
      rw [hfl] at hE
      exact bodyPost_ret (v := .agg #[.slice wa W.length wk, .slice av4 (F.length + 1) cv4, .slice ca n cc]) (by simp [results, Tryz.results13, go_sem, m0, m1, m2]) rfl hE
  · subst hv
    obtain ⟨t, ht0, ht1, hsr⟩ := S2.out
    have HB := hide (l2Bent_any p zs t w2 hsr HU.out ht0 (by omega) hl)
    clear hsr x3 x4 x5 k0 k1 k2
    go_wp2_with fail
    clear x0 x1 x2 m0 m1 m2
    refine HB.out.mono ?_
    rintro e w3 ⟨g, cv, n', D', P', t', rfl, hcv, hn41, hP', hG', s3, ht'0, ht'1, k3⟩
    have hz3 := k3.size
    have X3 := hide (X2.out.kept k3 (by omega))
    have R3 := hide (R2.out.kept k3 (by omega))
    have O3 := hide (G2.out.of.kept k3 (fun b h1 e => by omega))
    have K3 := hide (K2.out.trans k3)
    have C3 := hide hG'
    have S3 : Hid (SrcX w3 p zs (T + 600)) := hide ⟨t', ht'0, by omega, s3⟩
    have HP := hide hP'
    clear hG' s3 k3 hP'
    obtain ⟨⟨x0, x1, x2⟩, x3, x4, x5⟩ := X3.out
    obtain ⟨⟨m0, m1, m2⟩, k0, k1, k2⟩ := R3.out
    go_wp2_with fail
    have hk := Kept.one w3 fb 2 (.slice (some ⟨g, 0, none⟩) n' cv)
    have hzk : (w3.setCell ⟨fb, 2, none⟩ (.slice (some ⟨g, 0, none⟩) n' cv)).heap.size = w3.heap.size := by simp [World.setCell]
    exact bodyPost_ret (v := .agg #[.slice wa W.length wk, .slice fa F.length fc, .slice (some ⟨g, 0, none⟩) n' cv]) (by simp [results, Tryz.results13, go_sem, m0, m1, m2]) rfl (HE.out _ wa wk W fa fc F (some ⟨g, 0, none⟩) cv n' D' P'
      ⟨ownsRow_kept O3.out.wants hk (fun b hb e => by have := G2.out.wlt b hb; omega), ownsRow_kept O3.out.failed hk (fun b hb e => by have := G2.out.failed.2 b hb; omega), ((C3.out.kept hk (fun b h1 e => by omega)).mono (by omega))⟩
      ⟨by have := NN.out.sm.sw; omega, by have := NN.out.sm.sf; omega, hn41, fun i hi => ⟨(HP.out i hi).1, by have := (HP.out i hi).2; omega⟩⟩ (S3.out.kept hk (fun b hb e => by omega)) (K3.out.trans_own hk (fun b hb e => by omega)) (by rw [hzk]; omega))
  · subst hv
    by_cases hw0 : 0 < W.length
    · have hm1 : F.length + 1 ≤ maxLen := by unfold maxLen; have := NN.out.sm.sf; omega
      have hm2 : (F.length + 1) * 8 ≤ 140737488355328 := by have := NN.out.sm.sf; omega
      obtain ⟨g, hga, hgc⟩ := ownsRow_addr (show w2.ownsRow _ _ _ _ _ _ from G2.out.wants) (.inl hw0)
      subst hga
      obtain ⟨d0, hd0⟩ : ∃ d0, d0 = (W.getD 0 (0, 0)).1 := ⟨_, rfl⟩
      have c0 : w2.cell? ⟨g, 0, none⟩ = some (.int .i64 d0) := by
        obtain ⟨b1, o1, e1, hb1, hc1⟩ := (OwnW.rd G2.out.wants) (by intro e; simp [e] at hw0)
        simp only [Option.some.injEq, Addr.mk.injEq, and_true] at e1
        obtain ⟨rfl, rfl⟩ := e1
        have := (hc1 0 hw0).1
        rw [hd0]
        simpa using this
      have hgl : g < w2.heap.size := World.block_lt_of_cell? w2 ⟨g, 0, none⟩ c0
      have hw1 : (0 : Int) < (W.length : Int) := by omega
      have A2 := hide (below_alloc w2 (.cells #[.int .i64 d0] 2)).drew
      clear hd0 m0 m1 m2 k0 k1 k2
      go_upto_region 11 with fail
      go_region_law
        ((refine step_append_own (by rfl) (.tmp 44) (.tmp 50) 25 (by rfl) (w.heap.size + 1) 2 i0 (.int .i64 0) 1 8 Tryz.underlying25 ki0 kz0 kz1 kz2 rfl (by decide) (.slice fa F.length fc) F.length (F.map (Value.int .i64)) (by rfl) (G2.out.failed.1.alloc _) ⟨w2.heap.size, 0, none⟩ 1 1 [.int .i64 d0] (by rfl) (by rfl) (news1 (by rfl)) (by intro u hu; simp at hu; subst hu; rfl) (F.length + 1) rfl hm1 hm2 (by simp; omega) ?_; intro av4 cv4 w4 hown4 hk4; have O4 := hide hown4; have X4 := hide ((X2.out.below A2.out).kept hk4 (fun e => by have := G2.out.failed.2 _ e; omega)); have R4 := hide ((R2.out.below A2.out).kept hk4 (fun e => by have := (G2.out.failed.1.lt _ e).1; omega)); have S4 := hide ((S2.out.below A2.out).kept hk4 (fun b hb e => by have := (G2.out.failed.1.lt _ e).1; omega)); have W4 := hide (ownsRow_kept (OwnW.below G2.out.wants A2.out) hk4 (fun b hb e => rows_apart G2.out.wants G2.out.failed.1 (by decide) hb e)); have C4 := hide ((G2.out.chunks.below A2.out).kept_row (ownsRow_below G2.out.failed.1 A2.out) (by decide) (by decide) hk4); have K4 := hide ((K2.out.trans (Kept.of_below A2.out)).trans_own hk4 (fun b hb e => by have := (G2.out.failed.1.lt _ e).1; omega)); have hz4 : w2.heap.size ≤ w4.heap.size := Nat.le_trans A2.out.size hk4.size; clear hown4 hk4; obtain ⟨⟨y0, y1, y2⟩, y3, y4, y5⟩ := X4.out; obtain ⟨⟨m0, m1, m2⟩, k0, k1, k2⟩ := R4.out))
      all_goals
        go_wp2_with fail
        have hk5 := Kept.one w4 fb 1 (.slice av4 (F.length + 1) cv4)
        have hz5 : (w4.setCell ⟨fb, 1, none⟩ (.slice av4 (F.length + 1) cv4)).heap.size = w4.heap.size := by simp [World.setCell]
        have hfl : (F ++ [d0]).length = F.length + 1 := by simp
        have hO6 : w4.ownsRow (w.heap.size + 1) 2 1 (.slice av4 (F.length + 1) cv4) (F.length + 1) ((F ++ [d0]).map (Value.int .i64)) := by simpa using O4.out
        have hE := HE.out (w4.setCell ⟨fb, 1, none⟩ (.slice av4 (F.length + 1) cv4)) (some ⟨g, 0, none⟩) wk W av4 cv4 (F ++ [d0]) ca cc n D P
          ⟨ownsRow_kept W4.out hk5 (fun b hb e => by have := G2.out.wlt b hb; omega), by rw [hfl]; exact ownsRow_kept hO6 hk5 (fun b hb e => row_far hO6 (by omega) (by simp) y0 b hb e), (C4.out.kept hk5 (fun b h1 h2 e => by omega)).ga⟩
          ⟨by have := NN.out.sm.sw; omega, by have := NN.out.fit.fmany; simp; omega, by have := NN.out.sm.sn; omega, NN.out.small⟩ ((S4.out.kept hk5 (fun b hb e => by omega)).mono (by omega)) (K4.out.trans_own hk5 (fun b hb e => by omega)) (by rw [hz5]; omega)
        rw [hfl] at hE
        exact bodyPost_ret (v := .agg #[.slice (some ⟨g, 0, none⟩) W.length wk, .slice av4 (F.length + 1) cv4, .slice ca n cc]) (by simp [results, Tryz.results13, go_sem, m0, m1, m2]) rfl hE
    · have hw1 : ¬ (0 : Int) < (W.length : Int) := by omega
      go_wp2_with fail
      exact bodyPost_ret (v := .agg #[.slice wa W.length wk, .slice fa F.length fc, .slice ca n cc]) (by simp [results, Tryz.results13, go_sem, m0, m1, m2]) rfl (HE.out _ wa wk W fa fc F ca cc n D P G2.out.of NN.out.sm (S2.out.mono (by omega)) K2.out (by omega))
  · subst hv
    have hby : i1.bytes * 13 ≤ 281474976710656 := by rw [kw2]; decide
    have hml : 13 ≤ maxLen := by decide
    clear x3 x4 x5 m0 m1 m2 k0 k1 k2
    go_upto_region 13 with fail
    clear x0 x1 x2
    obtain ⟨⟨x0, x1, x2⟩, x3, x4, x5⟩ := X2.out
    obtain ⟨⟨m0, m1, m2⟩, k0, k1, k2⟩ := R2.out
    go_wp2_with (first | (at_make; refine wpList_make_full _ rfl _ _ 24 rfl w2.heap.size 78 i1 (.agg #[.int .i64 0, .int .i64 0]) 2 Tryz.underlying24 kj kw0 kw1 .i64 .i64 _ _ 13 rfl rfl rfl rfl hby hml (Nat.le_refl _) ?_; intro w3 ho3 hg3; have O3 := hide ho3; have K3 := hide (kept_of_none hg3); clear ho3 hg3; obtain ⟨⟨y0, y1, y2⟩, y3, y4, y5⟩ := X2.out.kept K3.out id; obtain ⟨⟨q0, q1, q2⟩, q3, q4, q5⟩ := R2.out.kept K3.out id) | fail)
    have hz3 := K3.out.size
    have hk5 := Kept.one w3 fb 0 (.slice (some ⟨w2.heap.size, 0, none⟩) 13 13)
    have hz5 : (w3.setCell ⟨fb, 0, none⟩ (.slice (some ⟨w2.heap.size, 0, none⟩) 13 13)).heap.size = w3.heap.size := by simp [World.setCell]
    have hK : Kept (fun b => b = p) w w3 := K2.out.trans (K3.out.mono (fun b _ hb => hb.elim))
    have hW : OwnW w2.heap.size w3 (.slice (some ⟨w2.heap.size, 0, none⟩) (List.replicate 13 ((0 : Int), (0 : Int))).length 13) (List.replicate 13 ((0 : Int), (0 : Int))) := by
      unfold OwnW
      rw [← wants13]
      exact O3.out
    exact bodyPost_ret (v := .agg #[.slice (some ⟨w2.heap.size, 0, none⟩) 13 13, .slice fa F.length fc, .slice ca n cc]) (by simp [results, Tryz.results13, go_sem, q0, q1, q2]) rfl (HE.out (w3.setCell ⟨fb, 0, none⟩ (.slice (some ⟨w2.heap.size, 0, none⟩) 13 13)) (some ⟨w2.heap.size, 0, none⟩) 13 (List.replicate 13 ((0 : Int), (0 : Int))) fa fc F ca cc n D P
      ⟨(OwnW.kept hW hk5 (fun b h1 e => by omega)).mono (by omega), ownsRow_kept (ownsRow_kept G2.out.failed.1 K3.out (fun b hb e => e)) hk5 (fun b hb e => by have := G2.out.failed.2 b hb; omega), ((G2.out.chunks.kept K3.out (fun b _ _ e => e)).kept hk5 (fun b h1 h2 e => by omega)).ga⟩
      ⟨by simp, by have := NN.out.sm.sf; omega, by have := NN.out.sm.sn; omega, NN.out.small⟩ (((S2.out.kept K3.out (fun b hb e => e)).kept hk5 (fun b hb e => by omega)).mono (by omega)) (hK.trans_own hk5 (fun b hb e => by omega)) (by rw [hz5]; omega))
  · have e0 : ((v : Int) == 0) = false := by simp; omega
    have e1 : ((v : Int) == 1) = false := by simp; omega
    have e2 : ((v : Int) == 2) = false := by simp; omega
    have e3 : ((v : Int) == 3) = false := by simp; omega
    have e4 : ((v : Int) == 4) = false := by simp; omega
    go_wp2_with fail
    exact bodyPost_ret (v := .agg #[.slice wa W.length wk, .slice fa F.length fc, .slice ca n cc]) (by simp [results, Tryz.results13, go_sem, m0, m1, m2]) rfl (HE.out _ wa wk W fa fc F ca cc n D P G2.out.of NN.out.sm (S2.out.mono (by omega)) K2.out (by omega))
end Go.Proofs.YtejfcapocikjmaaGreatDoor

