/-
  Texts put together: FetZc FetZd.
-/
import Derived.Test.YtejfcapocikjmaaGreatDoorKAsksCa14
import Derived.Test.YtejfcapocikjmaaGreatDoorKAsksCa13
import Derived.Deep.RegionLaw
import Derived.Deep.CutRange
namespace Go.Proofs.YtejfcapocikjmaaGreatDoor
open Go.RowKit Go.Maps
set_option linter.unusedVariables false

def cellW (x : Wn) : List Value := [.int .i64 x.1, .int .i64 x.2]
theorem range_getD (W : List Wn) (i : Nat) (hi : i ≤ W.length) : ((List.range i).map fun j => W.getD j (0, 0)) = W.take i := by
  apply List.ext_getElem?
  intro j
  by_cases h : j < i
  · have h2 : j < W.length := by omega
    simp [h, List.getD_eq_getElem?_getD, h2]
  · rw [List.getElem?_eq_none (by simp; omega), List.getElem?_eq_none (by simp; omega)]
theorem flat_take (W : List Wn) (i : Nat) (hi : i ≤ W.length) : flat i (laidW W.length W) = (W.take i).flatMap cellW := by
  rw [← range_getD W i hi]
  unfold flat
  rw [List.flatMap_map]
  apply flat_congr (F := laidW W.length W) (G := fun j => cellW (W.getD j (0, 0)))
  intro j hj
  simp only [laidW, if_pos (by omega : j < W.length), cellW]
theorem flat_all (W : List Wn) : flat W.length (laidW W.length W) = W.flatMap cellW := by
  rw [flat_take W W.length (Nat.le_refl _), List.take_length]
theorem cellW_len : ∀ (W : List Wn), (W.flatMap cellW).length = W.length * 2
  | [] => rfl
  | x :: r => by simp only [List.flatMap_cons, List.length_append, cellW_len r, cellW, List.length_cons, List.length_nil]; omega
theorem flat_drop (W : List Wn) (i : Nat) (hi : i < W.length) : (flat W.length (laidW W.length W)).drop ((i + 1) * 2) = (W.drop (i + 1)).flatMap cellW := by
  rw [flat_all]
  have e : W.flatMap cellW = (W.take (i + 1)).flatMap cellW ++ (W.drop (i + 1)).flatMap cellW := by rw [← List.flatMap_append, List.take_append_drop]
  rw [e, List.drop_left' (by rw [cellW_len, List.length_take]; omega)]
theorem erase_flat (W : List Wn) (i : Nat) (hi : i < W.length) : flat i (laidW W.length W) ++ (flat W.length (laidW W.length W)).drop ((i + 1) * 2) = flat (W.eraseIdx i).length (laidW (W.eraseIdx i).length (W.eraseIdx i)) := by
  rw [flat_take W i (by omega), flat_drop W i hi, flat_all, List.eraseIdx_eq_take_drop_succ, List.flatMap_append]
theorem erase_len {W : List Wn} {i : Nat} (hi : i < W.length) : (W.eraseIdx i).length = W.length - 1 := by rw [List.length_eraseIdx, if_pos hi]
theorem erase_set (W : List Wn) (i : Nat) (x : Wn) : (W.set i x).eraseIdx i = W.eraseIdx i := by
  rw [List.eraseIdx_eq_take_drop_succ, List.eraseIdx_eq_take_drop_succ, List.take_set_of_le (Nat.le_refl _), List.drop_set_of_lt (Nat.lt_succ_self _)]
theorem addr_add (b o j : Nat) : (⟨b, o, none⟩ : Addr).add j = ⟨b, o + j, none⟩ := by unfold Addr.add; split <;> simp_all
theorem oneW (W : List Wn) (i : Nat) : ∀ u ∈ flat i (laidW W.length W), u.oneCell' = true := by
  intro u hu
  unfold flat at hu
  obtain ⟨j, hj, hu⟩ := List.mem_flatMap.1 hu
  unfold laidW at hu
  split at hu <;> simp at hu <;> rcases hu with rfl | rfl <;> rfl
theorem ownW_cells {w : World} {B g : Nat} {n c : Nat} {W : List Wn} (h : w.ownsRow B 78 2 (.slice (some ⟨g, 0, none⟩) n c) n (flat W.length (laidW W.length W))) (hn : n = W.length) : ∀ j u, (flat W.length (laidW W.length W))[j]? = some u → w.cell? ⟨g, j, none⟩ = some u := by
  intro j u hj
  have hl := flat_length (n := W.length) (k := 2) (F := laidW W.length W) (fun i _ => laidW_length _ _ _)
  have hjl : j < W.length * 2 := by
    by_cases hx : j < W.length * 2
    · exact hx
    · rw [List.getElem?_eq_none (by omega)] at hj; cases hj
  rw [h.cellAt j (by subst hn; omega), hj]
theorem take_flat (W : List Wn) (i : Nat) (hi : i ≤ W.length) (j : Nat) (u : Value) (h : (flat i (laidW W.length W))[j]? = some u) : (flat W.length (laidW W.length W))[j]? = some u := by
  rw [flat_take W i hi] at h
  rw [flat_all]
  have e : W.flatMap cellW = (W.take i).flatMap cellW ++ (W.drop i).flatMap cellW := by rw [← List.flatMap_append, List.take_append_drop]
  have hj : j < ((W.take i).flatMap cellW).length := by
    by_cases hx : j < ((W.take i).flatMap cellW).length
    · exact hx
    · rw [List.getElem?_eq_none (by omega)] at h; cases h
  rw [e, List.getElem?_append_left hj, h]
set_option maxRecDepth 100000 in
set_option maxHeartbeats 12800000 in
theorem l10Lose_last_mid (B fb i g : Nat) (kc : Nat) (W : List Wn) (fa : Option Addr) (fc : Nat) (F : List Int) (u2 : Value) (d t : Int) (w : World) (hX : Bx3 w fb (.slice (some ⟨g, 0, none⟩) W.length kc) (.slice fa F.length fc) u2) (hO : OwnW B w (.slice (some ⟨g, 0, none⟩) W.length kc) W) (hF : w.ownsRow B 2 1 (.slice fa F.length fc) F.length (F.map (Value.int .i64))) (hB : B ≤ w.heap.size) (hne : g ≠ fb) (hfar : (Value.slice fa F.length fc).ownBlock ≠ some fb) (hWl : W.length ≤ 1048576) (hi : i < W.length) (hd : W.getD i (0, 0) = (d, t)) (h0 : 0 ≤ t) (h9 : t ≤ 9) (h3 : ¬ t + 1 < 3) (h40 : ¬ 40 ≤ F.length) (hcw : W.length ≤ kc) (hcb : kc ≤ 9223372036854775807) (hcm : ¬ kc = i + 1) :
    Calls Tryz.prog 83 #[.pointer (some ⟨fb, 0, none⟩), .int .i64 i] w fun e w' => e = .returned (.int .i64 0) ∧ ∃ xa xc ya yc, Bx3 w' fb (.slice xa (W.eraseIdx i).length xc) (.slice ya (F ++ [d]).length yc) u2 ∧ OwnW B w' (.slice xa (W.eraseIdx i).length xc) (W.eraseIdx i) ∧ w'.ownsRow B 2 1 (.slice ya (F ++ [d]).length yc) (F ++ [d]).length ((F ++ [d]).map (Value.int .i64)) ∧ Kept (fun b => b = fb ∨ b = g ∨ (Value.slice fa F.length fc).ownBlock = some b) w w' := by
  obtain ⟨i0, ki0, kz0, kz1, kz2⟩ := info_parts Tryz.infoI64
  obtain ⟨i1, kj, kw0, kw1, kw2⟩ := info_parts Tryz.infoWn
  have hl := flat_length (n := W.length) (k := 2) (F := laidW W.length W) (fun i _ => laidW_length _ _ _)
  have hz1 : (flat W.length (laidW W.length W))[i * 2 + 1]? = some (.int .i64 t) := by
    rw [flat_get (n := W.length) (k := 2) (F := laidW W.length W) (fun i _ => laidW_length _ _ _) i 1 hi (by decide)]
    simp only [laidW, if_pos hi, hd]
    rfl
  have m1 : w.cell? ⟨g, i * 2 + 1, none⟩ = some (.int .i64 t) := (World.ownsRow.cellAt hO (i * 2 + 1) (by omega)).trans hz1
  have m2 := World.ownsRow.frozenAt hO (i * 2 + 1)
  have hne' : ¬ fb = g := fun e => hne e.symm
  have hgl := (World.ownsRow.lt hO g rfl)
  -- the world behind the first store
  have K1 := hide (Kept.one w g (i * 2 + 1) (.int .i64 (t + 1)))
  have hln : (W.set i (d, t + 1)).length = W.length := by simp
  have O1 : Hid ((w.setCell ⟨g, i * 2 + 1, none⟩ (.int .i64 (t + 1))).ownsRow B 78 2 (.slice (some ⟨g, 0, none⟩) W.length kc) W.length (flat W.length (laidW W.length (W.set i (d, t + 1))))) := hide (by
    have h5 := (World.ownsRow.stored hO (i * 2 + 1) (.int .i64 (t + 1))).1
    rw [laidW_set (t := t + 1) hi (by rw [hd] : (W.getD i (0, 0)).1 = d), hln] at h5
    exact h5)
  have F1 := hide (ownsRow_kept hF K1.out (fun b hb e => by subst e; exact rows_apart hO hF (by decide) rfl hb))
  have X1 := hide (hX.kept K1.out (by omega))
  have hgl1 : g < (w.setCell ⟨g, i * 2 + 1, none⟩ (.int .i64 (t + 1))).heap.size := by simpa [World.setCell] using hgl.2
  have hB1 : B ≤ (w.setCell ⟨g, i * 2 + 1, none⟩ (.int .i64 (t + 1))).heap.size := by simpa [World.setCell] using hB
  have hi0 : (0 : Int) ≤ (i : Int) := by omega
  have hi1 : (i : Int) < (W.length : Int) := by omega
  have hwr : IntKind.i64.wrap (t + 1) = t + 1 := by simp [IntKind.wrap, IntKind.signed, IntKind.bits]; omega
  have hf0 : ¬ (40 : Int) ≤ (F.length : Int) := by omega
  have hgB := hgl.1
  have FAR := hide (fun (e : (Value.slice fa F.length fc).ownBlock = some g) => rows_apart hO hF (by decide) rfl e)
  have HCM := hide hcm
  have HFl := hide hF.lt
  obtain ⟨⟨t0, t1, t2⟩, z0, z1, z2⟩ := hX
  clear hO hz1 hd hl hF hgl
  go_enter Tryz.func83, Tryz.ntmps83
  go_upto_region 6 with fail
  clear t0 t1 t2 z0 z1 z2 m1 m2
  generalize w.setCell ⟨g, i * 2 + 1, none⟩ (.int .i64 (t + 1)) = W1 at *
  have hgd : (W.set i (d, t + 1)).getD i (0, 0) = (d, t + 1) := by rw [getD_set W (0, 0) (d, t + 1) hi, if_pos rfl]
  have hE := erase_set W i (d, t + 1)
  obtain ⟨V, hV⟩ : ∃ V : List Wn, V = W.set i (d, t + 1) := ⟨_, rfl⟩
  rw [← hV] at O1 hgd hE hln
  clear hV
  have HE := hide hE
  have HLN := hide hln
  have O2 : Hid (W1.ownsRow B 78 2 (.slice (some ⟨g, 0, none⟩) W.length kc) W.length (flat V.length (laidW V.length V))) := hide (by rw [hln]; exact O1.out)
  have HCE := hide (ownW_cells O2.out hln.symm)
  have hiV : i < V.length := by omega
  have c0 : W1.cell? ⟨g, i * 2, none⟩ = some (.int .i64 d) := by
    refine HCE.out _ _ ?_
    have := flat_get (n := V.length) (k := 2) (F := laidW V.length V) (fun i _ => laidW_length _ _ _) i 0 hiV (by decide)
    rw [Nat.add_zero] at this
    rw [this]
    simp only [laidW, if_pos hiV, hgd]
    rfl
  have C0 := hide c0
  have HIV := hide hiV
  clear hE hgd O1 hln hiV
  obtain ⟨⟨x0, x1, x2⟩, x3, x4, x5⟩ := X1.out
  have hfbl := X1.out.lt
  have hm1 : F.length + 1 ≤ maxLen := by unfold maxLen; omega
  have hm2 : (F.length + 1) * 8 ≤ 140737488355328 := by omega
  go_cut [4] from 31 to 47 (fun v4 wk' => v4 = .int .i64 0 ∧ ∃ ya yc, Hid (Bx3 wk' fb (.slice (some ⟨g, 0, none⟩) W.length kc) (.slice ya (F.length + 1) yc) u2) ∧ Hid (wk'.ownsRow B 2 1 (.slice ya (F.length + 1) yc) (F.length + 1) (F.map (Value.int .i64) ++ [.int .i64 d])) ∧ Hid (Kept (fun b => b = fb ∨ (Value.slice fa F.length fc).ownBlock = some b) W1 wk'))
  case first =>
    go_region_law
      ((refine step_append_own (by rfl) (.tmp 35) (.tmp 44) 25 (by rfl) B 2 i0 (.int .i64 0) 1 8 Tryz.underlying25 ki0 kz0 kz1 kz2 rfl (by decide) (.slice fa F.length fc) F.length (F.map (Value.int .i64)) (by rfl) (F1.out.alloc _) ⟨W1.heap.size, 0, none⟩ 1 1 [.int .i64 d] (by rfl) (by rfl) (news1 (by rfl)) (by intro u hu; simp at hu; subst hu; rfl) (F.length + 1) rfl hm1 hm2 (by simp; omega) ?_; intro a' c' w3 hrow3 hk3; have R3 := hide hrow3; have K3 := hide hk3; have X3 := hide (((X1.out.below (Below.refl _ _).drew).below (below_alloc _ _)).kept hk3 hfar); clear hrow3 hk3; obtain ⟨⟨y0, y1, y2⟩, y3, y4, y5⟩ := X3.out))
    all_goals
      go_wp2_with fail
      go_meet
      case rel =>
        have hk4 := Kept.one w3 fb 1 (.slice a' (F.length + 1) c')
        refine ⟨rfl, a', c', hide (X3.out.set1 _), hide (ownsRow_kept R3.out hk4 (fun b hb e => ?_)), hide ?_⟩
        · have h6 : w3.ownsRow B 2 1 (.slice a' (F.length + 1) c') (F.length + 1) ((F ++ [d]).map (Value.int .i64)) := by simpa using R3.out
          exact row_far h6 (by omega) (by simp) y0 b hb e
        · exact ((Kept.of_below (below_alloc _ _).drew).trans (K3.out.mono (fun b _ hb => .inr hb))).trans (hk4.mono (fun b _ hb => .inl hb))
  case rest =>
    obtain ⟨rfl, ya, yc, X5, R5, K5⟩ := hcut
    clear x0 x1 x2 x3 x4 x5 c0 F1 X1
    obtain ⟨WW, hWW⟩ : ∃ x, x = wc := ⟨_, rfl⟩
    subst hWW
    have hs5 := K5.out.size
    have hfb5 : fb < WW.heap.size := by omega
    have hg5 : g < WW.heap.size := by omega
    have hB5 : B ≤ WW.heap.size := by omega
    have O5 := hide (ownsRow_kept O2.out K5.out (fun b hb e => by
      simp only [Value.ownBlock, Option.some.injEq] at hb
      subst hb
      rcases e with e | e
      · exact hne e
      · exact FAR.out e))
    have CE5 := hide (ownW_cells O5.out HLN.out.symm)
    have R5f : Hid (∀ b, (Value.slice ya (F.length + 1) yc).ownBlock = some b → b ≠ fb ∧ b < WW.heap.size ∧ B ≤ b) := hide (fun b hb => ⟨row_far (zs := F ++ [d]) (by simpa using R5.out) (by omega) (by simp) X5.out.1.1 b hb, (R5.out.lt b hb).2, (R5.out.lt b hb).1⟩)
    have A5 := hide (below_alloc WW (.cells #[] 78)).drew
    have OWN0 : Hid ((WW.alloc (.cells #[] 78)).drew.ownsRow WW.heap.size 78 2 (.slice (some ⟨WW.heap.size, 0, none⟩) 0 0) 0 []) := hide (made_at rfl (Nat.le_refl _))
    have NEWS0 : Hid (∀ j u, (flat i (laidW V.length V))[j]? = some u → (WW.alloc (.cells #[] 78)).drew.cell? ((⟨g, 0, none⟩ : Addr).add j) = some u) := hide (fun j u hj => by
      rw [addr_add, Nat.zero_add]
      exact (A5.out.cell (p := ⟨g, j, none⟩) hg5).trans (CE5.out j u (take_flat V i (by have := HIV.out; omega) j u hj)))
    have NEWS2 : Hid (∀ w3 : World, Below WW.heap.size WW w3 → ∀ j u, ((flat V.length (laidW V.length V)).drop ((i + 1) * 2))[j]? = some u → w3.cell? ((⟨g, (i + 1) * 2, none⟩ : Addr).add j) = some u) := hide (fun w3 hb3 j u hj => by
      rw [addr_add]
      rw [List.getElem?_drop] at hj
      exact (hb3.cell (p := ⟨g, (i + 1) * 2 + j, none⟩) hg5).trans (CE5.out _ u hj))
    have HFl := hide (flat_length (n := i) (k := 2) (F := laidW V.length V) (fun i _ => laidW_length _ _ _))
    have HFn : Hid (((flat V.length (laidW V.length V)).drop ((i + 1) * 2)).length = (W.length - (i + 1)) * 2) := hide (by rw [List.length_drop, flat_length (n := V.length) (k := 2) (F := laidW V.length V) (fun i _ => laidW_length _ _ _)]; have := HLN.out; have := HIV.out; omega)
    have hm0 : 0 + i ≤ maxLen := by unfold maxLen; omega
    have hm0' : (0 + i) * 16 ≤ 140737488355328 := by omega
    have hN' : i + (W.length - (i + 1)) = W.length - 1 := by omega
    have HN := hide hN'
    have hm2 : i + (W.length - (i + 1)) ≤ maxLen := by unfold maxLen; omega
    have hm2' : (i + (W.length - (i + 1))) * 16 ≤ 140737488355328 := by omega
    have hk0' : (0 : Int) ≤ (i : Int) + 1 := by omega
    have hwr1 : IntKind.i64.wrap ((i : Int) + 1) = (i : Int) + 1 := by simp [IntKind.wrap, IntKind.signed, IntKind.bits]; omega
    have htn : ((i : Int) + 1).toNat = i + 1 := by omega
    have hI1 : (i : Int) ≤ (kc : Int) := by omega
    have hI2 : (i : Int) + 1 ≤ (W.length : Int) := by omega
    have hI3 : (W.length : Int) ≤ (kc : Int) := by omega
    have hI4 : (i : Int) ≤ (W.length : Int) := by omega
    have HON := hide (fun u (hu : u ∈ (flat V.length (laidW V.length V)).drop ((i + 1) * 2)) => flatW_one V u (List.mem_of_mem_drop hu))
    clear hN'
    obtain ⟨⟨x0, x1, x2⟩, x3, x4, x5⟩ := X5.out
    go_upto_region 7 with fail
    go_region_law
      ((first
        | (refine step_append_own (by rfl) (.tmp 49) (.tmp 55) 24 (by rfl) WW.heap.size 78 i1 (.agg #[.int .i64 0, .int .i64 0]) 2 16 Tryz.underlying24 kj kw0 kw1 kw2 rfl (by decide) (.slice (some ⟨WW.heap.size, 0, none⟩) 0 0) 0 [] (by rfl) OWN0.out ⟨g, 0, none⟩ i kc (flat i (laidW V.length V)) (by rfl) HFl.out NEWS0.out (oneW V i) i (by simp) hm0 hm0' A5.out.size ?_; intro av cv w3 hown3 hk3; have O3 := hide hown3; have BB3 := hide (A5.out.trans (hk3.below A5.out.size (fun q hq hS => by simp [Value.ownBlock] at hS; omega))); clear hown3 hk3; obtain ⟨⟨y0, y1, y2⟩, y3, y4, y5⟩ := X5.out.below BB3.out)
        | (refine step_append_own (by rfl) (.tmp 56) (.tmp 63) 24 (by rfl) WW.heap.size 78 i1 (.agg #[.int .i64 0, .int .i64 0]) 2 16 Tryz.underlying24 kj kw0 kw1 kw2 rfl (by decide) (.slice av i cv) i ([] ++ flat i (laidW V.length V)) (by rfl) O3.out ⟨g, (i + 1) * 2, none⟩ (W.length - (i + 1)) (kc - (i + 1)) ((flat V.length (laidW V.length V)).drop ((i + 1) * 2)) (by rfl) HFn.out (NEWS2.out w3 BB3.out) HON.out (W.length - 1) HN.out hm2 hm2' BB3.out.size ?_; intro av3 cv3 w4 hown4 hk4; have O4 := hide hown4; have BB4 := hide (BB3.out.trans (hk4.below BB3.out.size (fun q hq hS => by have := (O3.out.lt q hS).1; omega))); clear hown4 hk4; obtain ⟨⟨v0, v1, v2⟩, v3, v4, v5⟩ := X5.out.below BB4.out)))
    all_goals
      go_wp2_with fail
      go_ret
      have hk5 := Kept.one w4 fb 0 (.slice av3 (W.length - 1) cv3)
      have hfl : (F ++ [d]).length = F.length + 1 := by simp
      have hel : (W.eraseIdx i).length = W.length - 1 := erase_len (by have := HIV.out; have := HLN.out; omega)
      refine ⟨rfl, av3, cv3, ya, yc, ?_, ?_, ?_, ?_⟩
      · try rw [hfl]
        rw [hel]
        exact (X5.out.below BB4.out).set0 _
      · have h8 := ownsRow_kept O4.out hk5 (fun b hb e => by have := (O4.out.lt b hb).1; omega)
        rw [List.nil_append, erase_flat V i HIV.out, HE.out] at h8
        unfold OwnW
        rw [hel] at h8 ⊢
        exact ownsRow_mono h8 hB5
      · try rw [hfl]
        have h8 := ownsRow_kept (ownsRow_below R5.out BB4.out) hk5 (fun b hb e => (R5f.out b hb).1 e)
        simpa using h8
      · have q1 : Kept (fun b => b = fb ∨ b = g ∨ (Value.slice fa F.length fc).ownBlock = some b) w WW := (K1.out.mono (fun b _ hb => .inr (.inl hb))).trans (K5.out.mono (fun b _ hb => hb.elim .inl (fun h => .inr (.inr h))))
        exact (q1.trans (Kept.of_below BB4.out)).trans (hk5.mono (fun b _ hb => .inl hb))
set_option maxRecDepth 100000 in
set_option maxHeartbeats 12800000 in
theorem l10Lose_last_end (B fb i g : Nat)  (W : List Wn) (fa : Option Addr) (fc : Nat) (F : List Int) (u2 : Value) (d t : Int) (w : World) (hX : Bx3 w fb (.slice (some ⟨g, 0, none⟩) W.length (i + 1)) (.slice fa F.length fc) u2) (hO : OwnW B w (.slice (some ⟨g, 0, none⟩) W.length (i + 1)) W) (hF : w.ownsRow B 2 1 (.slice fa F.length fc) F.length (F.map (Value.int .i64))) (hB : B ≤ w.heap.size) (hne : g ≠ fb) (hfar : (Value.slice fa F.length fc).ownBlock ≠ some fb) (hWl : W.length ≤ 1048576) (hi : i < W.length) (hd : W.getD i (0, 0) = (d, t)) (h0 : 0 ≤ t) (h9 : t ≤ 9) (h3 : ¬ t + 1 < 3) (h40 : ¬ 40 ≤ F.length) (hcw : W.length ≤ (i + 1)) (hcb : (i + 1) ≤ 9223372036854775807) (hcm : W.length = i + 1) :
    Calls Tryz.prog 83 #[.pointer (some ⟨fb, 0, none⟩), .int .i64 i] w fun e w' => e = .returned (.int .i64 0) ∧ ∃ xa xc ya yc, Bx3 w' fb (.slice xa (W.eraseIdx i).length xc) (.slice ya (F ++ [d]).length yc) u2 ∧ OwnW B w' (.slice xa (W.eraseIdx i).length xc) (W.eraseIdx i) ∧ w'.ownsRow B 2 1 (.slice ya (F ++ [d]).length yc) (F ++ [d]).length ((F ++ [d]).map (Value.int .i64)) ∧ Kept (fun b => b = fb ∨ b = g ∨ (Value.slice fa F.length fc).ownBlock = some b) w w' := by
  obtain ⟨i0, ki0, kz0, kz1, kz2⟩ := info_parts Tryz.infoI64
  obtain ⟨i1, kj, kw0, kw1, kw2⟩ := info_parts Tryz.infoWn
  have hl := flat_length (n := W.length) (k := 2) (F := laidW W.length W) (fun i _ => laidW_length _ _ _)
  have hz1 : (flat W.length (laidW W.length W))[i * 2 + 1]? = some (.int .i64 t) := by
    rw [flat_get (n := W.length) (k := 2) (F := laidW W.length W) (fun i _ => laidW_length _ _ _) i 1 hi (by decide)]
    simp only [laidW, if_pos hi, hd]
    rfl
  have m1 : w.cell? ⟨g, i * 2 + 1, none⟩ = some (.int .i64 t) := (World.ownsRow.cellAt hO (i * 2 + 1) (by omega)).trans hz1
  have m2 := World.ownsRow.frozenAt hO (i * 2 + 1)
  have hne' : ¬ fb = g := fun e => hne e.symm
  have hgl := (World.ownsRow.lt hO g rfl)
  -- the world behind the first store
  have K1 := hide (Kept.one w g (i * 2 + 1) (.int .i64 (t + 1)))
  have hln : (W.set i (d, t + 1)).length = W.length := by simp
  have O1 : Hid ((w.setCell ⟨g, i * 2 + 1, none⟩ (.int .i64 (t + 1))).ownsRow B 78 2 (.slice (some ⟨g, 0, none⟩) W.length (i + 1)) W.length (flat W.length (laidW W.length (W.set i (d, t + 1))))) := hide (by
    have h5 := (World.ownsRow.stored hO (i * 2 + 1) (.int .i64 (t + 1))).1
    rw [laidW_set (t := t + 1) hi (by rw [hd] : (W.getD i (0, 0)).1 = d), hln] at h5
    exact h5)
  have F1 := hide (ownsRow_kept hF K1.out (fun b hb e => by subst e; exact rows_apart hO hF (by decide) rfl hb))
  have X1 := hide (hX.kept K1.out (by omega))
  have hgl1 : g < (w.setCell ⟨g, i * 2 + 1, none⟩ (.int .i64 (t + 1))).heap.size := by simpa [World.setCell] using hgl.2
  have hB1 : B ≤ (w.setCell ⟨g, i * 2 + 1, none⟩ (.int .i64 (t + 1))).heap.size := by simpa [World.setCell] using hB
  have hi0 : (0 : Int) ≤ (i : Int) := by omega
  have hi1 : (i : Int) < (W.length : Int) := by omega
  have hwr : IntKind.i64.wrap (t + 1) = t + 1 := by simp [IntKind.wrap, IntKind.signed, IntKind.bits]; omega
  have hf0 : ¬ (40 : Int) ≤ (F.length : Int) := by omega
  have hgB := hgl.1
  have FAR := hide (fun (e : (Value.slice fa F.length fc).ownBlock = some g) => rows_apart hO hF (by decide) rfl e)
  have HCM := hide hcm
  clear hcm
  have HFl := hide hF.lt
  obtain ⟨⟨t0, t1, t2⟩, z0, z1, z2⟩ := hX
  clear hO hz1 hd hl hF hgl
  go_enter Tryz.func83, Tryz.ntmps83
  go_upto_region 6 with fail
  clear t0 t1 t2 z0 z1 z2 m1 m2
  generalize w.setCell ⟨g, i * 2 + 1, none⟩ (.int .i64 (t + 1)) = W1 at *
  have hgd : (W.set i (d, t + 1)).getD i (0, 0) = (d, t + 1) := by rw [getD_set W (0, 0) (d, t + 1) hi, if_pos rfl]
  have hE := erase_set W i (d, t + 1)
  obtain ⟨V, hV⟩ : ∃ V : List Wn, V = W.set i (d, t + 1) := ⟨_, rfl⟩
  rw [← hV] at O1 hgd hE hln
  clear hV
  have HE := hide hE
  have HLN := hide hln
  have O2 : Hid (W1.ownsRow B 78 2 (.slice (some ⟨g, 0, none⟩) W.length (i + 1)) W.length (flat V.length (laidW V.length V))) := hide (by rw [hln]; exact O1.out)
  have HCE := hide (ownW_cells O2.out hln.symm)
  have hiV : i < V.length := by omega
  have c0 : W1.cell? ⟨g, i * 2, none⟩ = some (.int .i64 d) := by
    refine HCE.out _ _ ?_
    have := flat_get (n := V.length) (k := 2) (F := laidW V.length V) (fun i _ => laidW_length _ _ _) i 0 hiV (by decide)
    rw [Nat.add_zero] at this
    rw [this]
    simp only [laidW, if_pos hiV, hgd]
    rfl
  have C0 := hide c0
  have HIV := hide hiV
  clear hE hgd O1 hln hiV
  obtain ⟨⟨x0, x1, x2⟩, x3, x4, x5⟩ := X1.out
  have hfbl := X1.out.lt
  have hm1 : F.length + 1 ≤ maxLen := by unfold maxLen; omega
  have hm2 : (F.length + 1) * 8 ≤ 140737488355328 := by omega
  go_cut [4] from 31 to 47 (fun v4 wk' => v4 = .int .i64 0 ∧ ∃ ya yc, Hid (Bx3 wk' fb (.slice (some ⟨g, 0, none⟩) W.length (i + 1)) (.slice ya (F.length + 1) yc) u2) ∧ Hid (wk'.ownsRow B 2 1 (.slice ya (F.length + 1) yc) (F.length + 1) (F.map (Value.int .i64) ++ [.int .i64 d])) ∧ Hid (Kept (fun b => b = fb ∨ (Value.slice fa F.length fc).ownBlock = some b) W1 wk'))
  case first =>
    go_region_law
      ((refine step_append_own (by rfl) (.tmp 35) (.tmp 44) 25 (by rfl) B 2 i0 (.int .i64 0) 1 8 Tryz.underlying25 ki0 kz0 kz1 kz2 rfl (by decide) (.slice fa F.length fc) F.length (F.map (Value.int .i64)) (by rfl) (F1.out.alloc _) ⟨W1.heap.size, 0, none⟩ 1 1 [.int .i64 d] (by rfl) (by rfl) (news1 (by rfl)) (by intro u hu; simp at hu; subst hu; rfl) (F.length + 1) rfl hm1 hm2 (by simp; omega) ?_; intro a' c' w3 hrow3 hk3; have R3 := hide hrow3; have K3 := hide hk3; have X3 := hide (((X1.out.below (Below.refl _ _).drew).below (below_alloc _ _)).kept hk3 hfar); clear hrow3 hk3; obtain ⟨⟨y0, y1, y2⟩, y3, y4, y5⟩ := X3.out))
    all_goals
      go_wp2_with fail
      go_meet
      case rel =>
        have hk4 := Kept.one w3 fb 1 (.slice a' (F.length + 1) c')
        refine ⟨rfl, a', c', hide (X3.out.set1 _), hide (ownsRow_kept R3.out hk4 (fun b hb e => ?_)), hide ?_⟩
        · have h6 : w3.ownsRow B 2 1 (.slice a' (F.length + 1) c') (F.length + 1) ((F ++ [d]).map (Value.int .i64)) := by simpa using R3.out
          exact row_far h6 (by omega) (by simp) y0 b hb e
        · exact ((Kept.of_below (below_alloc _ _).drew).trans (K3.out.mono (fun b _ hb => .inr hb))).trans (hk4.mono (fun b _ hb => .inl hb))
  case rest =>
    obtain ⟨rfl, ya, yc, X5, R5, K5⟩ := hcut
    clear x0 x1 x2 x3 x4 x5 c0 F1 X1
    obtain ⟨WW, hWW⟩ : ∃ x, x = wc := ⟨_, rfl⟩
    subst hWW
    have hs5 := K5.out.size
    have hfb5 : fb < WW.heap.size := by omega
    have hg5 : g < WW.heap.size := by omega
    have hB5 : B ≤ WW.heap.size := by omega
    have O5 := hide (ownsRow_kept O2.out K5.out (fun b hb e => by
      simp only [Value.ownBlock, Option.some.injEq] at hb
      subst hb
      rcases e with e | e
      · exact hne e
      · exact FAR.out e))
    have CE5 := hide (ownW_cells O5.out HLN.out.symm)
    have R5f : Hid (∀ b, (Value.slice ya (F.length + 1) yc).ownBlock = some b → b ≠ fb ∧ b < WW.heap.size ∧ B ≤ b) := hide (fun b hb => ⟨row_far (zs := F ++ [d]) (by simpa using R5.out) (by omega) (by simp) X5.out.1.1 b hb, (R5.out.lt b hb).2, (R5.out.lt b hb).1⟩)
    have A5 := hide (below_alloc WW (.cells #[] 78)).drew
    have OWN0 : Hid ((WW.alloc (.cells #[] 78)).drew.ownsRow WW.heap.size 78 2 (.slice (some ⟨WW.heap.size, 0, none⟩) 0 0) 0 []) := hide (made_at rfl (Nat.le_refl _))
    have NEWS0 : Hid (∀ j u, (flat i (laidW V.length V))[j]? = some u → (WW.alloc (.cells #[] 78)).drew.cell? ((⟨g, 0, none⟩ : Addr).add j) = some u) := hide (fun j u hj => by
      rw [addr_add, Nat.zero_add]
      exact (A5.out.cell (p := ⟨g, j, none⟩) hg5).trans (CE5.out j u (take_flat V i (by have := HIV.out; omega) j u hj)))
    have NEWS2 : Hid (∀ w3 : World, Below WW.heap.size WW w3 → ∀ j u, ((flat V.length (laidW V.length V)).drop ((i + 1) * 2))[j]? = some u → w3.cell? ((⟨g, 0, none⟩ : Addr).add j) = some u) := hide (fun w3 hb3 j u hj => by
      rw [List.drop_eq_nil_of_le (by rw [flat_length (n := V.length) (k := 2) (F := laidW V.length V) (fun i _ => laidW_length _ _ _)]; have := HLN.out; have := HCM.out; omega)] at hj
      simp at hj)
    have HFl := hide (flat_length (n := i) (k := 2) (F := laidW V.length V) (fun i _ => laidW_length _ _ _))
    have HFn : Hid (((flat V.length (laidW V.length V)).drop ((i + 1) * 2)).length = 0 * 2) := hide (by rw [List.length_drop, flat_length (n := V.length) (k := 2) (F := laidW V.length V) (fun i _ => laidW_length _ _ _)]; have := HLN.out; have := HIV.out; omega)
    have hm0 : 0 + i ≤ maxLen := by unfold maxLen; omega
    have hm0' : (0 + i) * 16 ≤ 140737488355328 := by omega
    have hN' : i + 0 = W.length - 1 := by omega
    have HN := hide hN'
    have hm2 : i + 0 ≤ maxLen := by unfold maxLen; omega
    have hm2' : (i + 0) * 16 ≤ 140737488355328 := by omega
    have hk0' : (0 : Int) ≤ (i : Int) + 1 := by omega
    have hwr1 : IntKind.i64.wrap ((i : Int) + 1) = (i : Int) + 1 := by simp [IntKind.wrap, IntKind.signed, IntKind.bits]; omega
    have htn : ((i : Int) + 1).toNat = i + 1 := by omega
    have hI1 : (i : Int) ≤ ((i : Int) + 1 : Int) := by omega
    have hI2 : (i : Int) + 1 ≤ (W.length : Int) := by omega
    have hI3 : (W.length : Int) ≤ ((i : Int) + 1 : Int) := by omega
    have hI4 : (i : Int) ≤ (W.length : Int) := by omega
    have HON := hide (fun u (hu : u ∈ (flat V.length (laidW V.length V)).drop ((i + 1) * 2)) => flatW_one V u (List.mem_of_mem_drop hu))
    clear hN'
    obtain ⟨⟨x0, x1, x2⟩, x3, x4, x5⟩ := X5.out
    go_upto_region 7 with fail
    go_region_law
      ((first
        | (refine step_append_own (by rfl) (.tmp 49) (.tmp 55) 24 (by rfl) WW.heap.size 78 i1 (.agg #[.int .i64 0, .int .i64 0]) 2 16 Tryz.underlying24 kj kw0 kw1 kw2 rfl (by decide) (.slice (some ⟨WW.heap.size, 0, none⟩) 0 0) 0 [] (by rfl) OWN0.out ⟨g, 0, none⟩ i (i + 1) (flat i (laidW V.length V)) (by rfl) HFl.out NEWS0.out (oneW V i) i (by simp) hm0 hm0' A5.out.size ?_; intro av cv w3 hown3 hk3; have O3 := hide hown3; have BB3 := hide (A5.out.trans (hk3.below A5.out.size (fun q hq hS => by simp [Value.ownBlock] at hS; omega))); clear hown3 hk3; obtain ⟨⟨y0, y1, y2⟩, y3, y4, y5⟩ := X5.out.below BB3.out)
        | (refine step_append_own (by rfl) (.tmp 56) (.tmp 63) 24 (by rfl) WW.heap.size 78 i1 (.agg #[.int .i64 0, .int .i64 0]) 2 16 Tryz.underlying24 kj kw0 kw1 kw2 rfl (by decide) (.slice av i cv) i ([] ++ flat i (laidW V.length V)) (by rfl) O3.out ⟨g, 0, none⟩ 0 0 ((flat V.length (laidW V.length V)).drop ((i + 1) * 2)) (by rfl) HFn.out (NEWS2.out w3 BB3.out) HON.out (W.length - 1) HN.out hm2 hm2' BB3.out.size ?_; intro av3 cv3 w4 hown4 hk4; have O4 := hide hown4; have BB4 := hide (BB3.out.trans (hk4.below BB3.out.size (fun q hq hS => by have := (O3.out.lt q hS).1; omega))); clear hown4 hk4; obtain ⟨⟨v0, v1, v2⟩, v3, v4, v5⟩ := X5.out.below BB4.out)))
    all_goals
      go_wp2_with fail
      go_ret
      have hk5 := Kept.one w4 fb 0 (.slice av3 (W.length - 1) cv3)
      have hfl : (F ++ [d]).length = F.length + 1 := by simp
      have hel : (W.eraseIdx i).length = W.length - 1 := erase_len (by have := HIV.out; have := HLN.out; omega)
      refine ⟨rfl, av3, cv3, ya, yc, ?_, ?_, ?_, ?_⟩
      · try rw [hfl]
        rw [hel]
        exact (X5.out.below BB4.out).set0 _
      · have h8 := ownsRow_kept O4.out hk5 (fun b hb e => by have := (O4.out.lt b hb).1; omega)
        rw [List.nil_append, erase_flat V i HIV.out, HE.out] at h8
        unfold OwnW
        rw [hel] at h8 ⊢
        exact ownsRow_mono h8 hB5
      · try rw [hfl]
        have h8 := ownsRow_kept (ownsRow_below R5.out BB4.out) hk5 (fun b hb e => (R5f.out b hb).1 e)
        simpa using h8
      · have q1 : Kept (fun b => b = fb ∨ b = g ∨ (Value.slice fa F.length fc).ownBlock = some b) w WW := (K1.out.mono (fun b _ hb => .inr (.inl hb))).trans (K5.out.mono (fun b _ hb => hb.elim .inl (fun h => .inr (.inr h))))
        exact (q1.trans (Kept.of_below BB4.out)).trans (hk5.mono (fun b _ hb => .inl hb))
end Go.Proofs.YtejfcapocikjmaaGreatDoor

namespace Go.Proofs.YtejfcapocikjmaaGreatDoor
open Go.RowKit Go.Maps
set_option linter.unusedVariables false
theorem l10Lose_last (B fb i : Nat) (wa : Option Addr) (wc : Nat) (W : List Wn) (fa : Option Addr) (fc : Nat) (F : List Int) (u2 : Value) (d t : Int) (w : World) (hX : Bx3 w fb (.slice wa W.length wc) (.slice fa F.length fc) u2) (hO : OwnW B w (.slice wa W.length wc) W) (hF : w.ownsRow B 2 1 (.slice fa F.length fc) F.length (F.map (Value.int .i64))) (hB : B ≤ w.heap.size) (hfar1 : (Value.slice wa W.length wc).ownBlock ≠ some fb) (hfar : (Value.slice fa F.length fc).ownBlock ≠ some fb) (hWl : W.length ≤ 1048576) (hi : i < W.length) (hd : W.getD i (0, 0) = (d, t)) (h0 : 0 ≤ t) (h9 : t ≤ 9) (h3 : ¬ t + 1 < 3) (h40 : ¬ 40 ≤ F.length) :
    Calls Tryz.prog 83 #[.pointer (some ⟨fb, 0, none⟩), .int .i64 i] w fun e w' => e = .returned (.int .i64 0) ∧ ∃ xa xc ya yc, Bx3 w' fb (.slice xa (W.eraseIdx i).length xc) (.slice ya (F ++ [d]).length yc) u2 ∧ OwnW B w' (.slice xa (W.eraseIdx i).length xc) (W.eraseIdx i) ∧ w'.ownsRow B 2 1 (.slice ya (F ++ [d]).length yc) (F ++ [d]).length ((F ++ [d]).map (Value.int .i64)) ∧ Kept (fun b => b = fb ∨ (Value.slice wa W.length wc).ownBlock = some b ∨ (Value.slice fa F.length fc).ownBlock = some b) w w' := by
  have hO2 := hO
  unfold OwnW at hO2
  rcases hO2.2 with ⟨h', hh⟩ | ⟨g, cap, cur, h', hb, hh, hnc, hcm, hcs, htake⟩
  · omega
  · simp only [Value.slice.injEq, true_and] at h'
    obtain ⟨rfl, rfl⟩ := h'
    have hne : g ≠ fb := fun e => hfar1 (by subst e; rfl)
    unfold maxLen at hcm
    have hS : ∀ b : Nat, b = g → (Value.slice (some ⟨g, 0, none⟩) W.length wc).ownBlock = some b := fun b e => by subst e; rfl
    by_cases hc : wc = i + 1
    · subst hc
      have hl : W.length = i + 1 := by omega
      refine (l10Lose_last_end B fb i g W fa fc F u2 d t w hX hO hF hB hne hfar hWl hi hd h0 h9 h3 h40 hnc (by omega) hl).mono ?_
      rintro e w' ⟨rfl, xa, xc, ya, yc, a1, a2, a3, a4⟩
      exact ⟨rfl, xa, xc, ya, yc, a1, a2, a3, a4.mono (fun b _ hb => hb.elim .inl (fun h => h.elim (fun h => .inr (.inl (hS b h))) (fun h => .inr (.inr h))))⟩
    · refine (l10Lose_last_mid B fb i g wc W fa fc F u2 d t w hX hO hF hB hne hfar hWl hi hd h0 h9 h3 h40 hnc (by omega) hc).mono ?_
      rintro e w' ⟨rfl, xa, xc, ya, yc, a1, a2, a3, a4⟩
      exact ⟨rfl, xa, xc, ya, yc, a1, a2, a3, a4.mono (fun b _ hb => hb.elim .inl (fun h => h.elim (fun h => .inr (.inl (hS b h))) (fun h => .inr (.inr h))))⟩
set_option maxRecDepth 100000 in
set_option maxHeartbeats 6400000 in
theorem specLoseFetch_last (wa : Option Addr) (wk : Nat) (W : List Wn) (fa : Option Addr) (fc : Nat) (F : List Int) (ca : Option Addr) (cc n : Nat) (D : Nat → Int) (P : Nat → List Int) (d : Int) (w : World) (h : RdF w wa W fa F ca D P n) (hn : n ≤ 1048576) (hP : SmallP P n) (hWl : W.length ≤ 1048576) (hFl : F.length ≤ 1048576) (hfc : F.length ≤ fc) (hz : fetFault W F D P n = 0) (hPl : ∀ i, i < n → 0 < (P i).length ∧ (P i).length ≤ 1048576) (i : Nat) (t : Int) (hi : i < W.length) (hdi : W.getD i (0, 0) = (d, t)) (hfi : ∀ j, j < i → (W.getD j (0, 0)).1 ≠ d) (h0 : 0 ≤ t) (h9 : t ≤ 9) (h3 : ¬ t + 1 < 3) (h40 : ¬ 40 ≤ F.length) :
    Calls Tryz.prog 60 #[fetV wa W.length wk fa F.length fc ca n cc, .int .i64 d] w (ResF 0 (W.eraseIdx i) (F ++ [d]) D P n w) := by
  have B0 := hide (below_next (below_alloc w (.cells #[.slice wa W.length wk, .slice fa F.length fc, .slice ca n cc] 28)) (below_alloc _ (.cells #[.int .i64 0, .slice none 0 0, .slice none 0 0, .slice none 0 0] 33)))
  have X0 := hide ((Bx3.new w (.slice wa W.length wk) (.slice fa F.length fc) (.slice ca n cc) 28).below (below_alloc _ (.cells #[.int .i64 0, .slice none 0 0, .slice none 0 0, .slice none 0 0] 33)))
  have R0 := hide (Bx4.new (w.alloc (.cells #[.slice wa W.length wk, .slice fa F.length fc, .slice ca n cc] 28)) (.int .i64 0) (.slice none 0 0) (.slice none 0 0) (.slice none 0 0) 33)
  have hs : (w.alloc (.cells #[.slice wa W.length wk, .slice fa F.length fc, .slice ca n cc] 28)).heap.size = w.heap.size + 1 := by simp
  rw [hs] at R0
  clear hs
  have HFF := hide (l10Fault_any w.heap.size wa wk W fa fc F ca cc n D P _ X0.out (h.below B0.out) hn hP hWl hFl hfc)
  rw [hz] at HFF
  have HAT := hide (fun (u : World) (hb : Below w.heap.size w u) (hX : Bx3 u w.heap.size (.slice wa W.length wk) (.slice fa F.length fc) (.slice ca n cc)) => l10At_yes w.heap.size wa wk i W d u hX.1.1 (h.wants.below hb) hWl hi (by rw [hdi]) hfi)
  have HCP := hide (fun (u : World) (hb : Below w.heap.size w u) => l10Copy_any wa wk W fa fc F ca cc n D P u (h.below hb) hn hPl hWl hFl)
  have HDI := hide hdi
  have hi9 : ¬ (i : Int) < 0 := by omega
  clear h hP hz hdi hfi
  unfold fetV at HCP ⊢
  go_enter Tryz.func60, Tryz.ntmps60
  go_wp2_with fail
  generalize (w.alloc (.cells #[.slice wa W.length wk, .slice fa F.length fc, .slice ca n cc] 28)).alloc (.cells #[.int .i64 0, .slice none 0 0, .slice none 0 0, .slice none 0 0] 33) = W0 at *
  refine HFF.out.mono ?_
  rintro e w1 ⟨rfl, hb1⟩
  have B1 := hide (below_next B0.out hb1)
  have X1 := hide (X0.out.below hb1)
  have R1 := hide (R0.out.below hb1)
  clear hb1 X0 R0 B0 HFF
  go_wp2_with fail
  refine (HAT.out w1 B1.out X1.out).mono ?_
  rintro e w1 ⟨rfl, rfl⟩
  obtain ⟨⟨t0, t1, t2⟩, -, -, -⟩ := X1.out
  go_wp2_with fail
  clear t0 t1 t2
  refine (HCP.out w1 B1.out).mono ?_
  rintro e w2 ⟨xa, xc, ya, yc, za, zc, T, rfl, hW2, hF2, hG2, hT2, hxT, hyT, hb2⟩
  have hzw := B1.out.size
  have hz2 := hb2.size
  have hr1 := R1.out.lt
  have B2 := hide (below_next (below_next B1.out hb2) (below_alloc w2 (.cells #[.slice xa W.length xc, .slice ya F.length yc, .slice za n zc] 28)))
  have A2 := hide (below_alloc w2 (.cells #[.slice xa W.length xc, .slice ya F.length yc, .slice za n zc] 28))
  have N2 := hide (Bx3.new w2 (.slice xa W.length xc) (.slice ya F.length yc) (.slice za n zc) 28)
  have R2 := hide ((R1.out.below hb2).below A2.out)
  have W2 := hide (hW2.below A2.out)
  have F2 := hide (ownsRow_below hF2 A2.out)
  have G2 := hide (hG2.below A2.out)
  have D2 : Hid (RdF (w2.alloc (.cells #[.slice xa W.length xc, .slice ya F.length yc, .slice za n zc] 28)) xa W ya F za D P n) := hide ⟨(hW2.below A2.out).rd, reads_owned (ownsRow_below hF2 A2.out) rfl, (hG2.rd).below A2.out⟩
  have hyl : ∀ b, (Value.slice ya F.length yc).ownBlock = some b → b < w2.heap.size := fun b hb => (hF2.lt b hb).2
  have hxl : ∀ b, (Value.slice xa W.length xc).ownBlock = some b → b < w2.heap.size := fun b hb => (World.ownsRow.lt hW2 b hb).2
  have hsz3 : (w2.alloc (.cells #[.slice xa W.length xc, .slice ya F.length yc, .slice za n zc] 28)).heap.size = w2.heap.size + 1 := by simp
  have HYX := hide (And.intro hyl (And.intro hxl (And.intro hxT hsz3)))
  have HYT := hide hyT
  clear hb2 hW2 hF2 hG2 R1 HCP HAT X1 hyl hxl hxT hyT hsz3
  have HAS := hide (l10Lose_last w1.heap.size w2.heap.size i xa xc W ya yc F _ d t _ N2.out W2.out F2.out (by have := HYX.out.2.2.2; omega) (fun e => by have := HYX.out.2.1 _ e; omega) (fun e => by have := HYX.out.1 _ e; omega) hWl hi HDI.out h0 h9 (by omega) (by omega))
  go_wp2_with fail
  generalize w2.alloc (.cells #[.slice xa W.length xc, .slice ya F.length yc, .slice za n zc] 28) = w3 at *
  refine HAS.out.mono ?_
  rintro e w4 ⟨rfl, ua, uc, va, vc, hX4, hW4, hF4, hK4⟩
  have hz4 := hK4.size
  have G4 := hide (G2.out.kept hK4 (fun b h1 h2 e => by rcases e with e | e | e; omega; (have := HYX.out.2.2.1 b e; omega); (have := HYT.out b e; omega)))
  have B4 := hide (B2.out.trans (hK4.below (B := w.heap.size) B2.out.size (fun k hk e => by rcases e with e | e | e; omega; (have := (World.ownsRow.lt W2.out k e).1; omega); (have := (F2.out.lt k e).1; omega))))
  have R4 := hide (R2.out.kept hK4 (fun e => by rcases e with e | e | e; omega; (have := (World.ownsRow.lt W2.out _ e).1; omega); (have := (F2.out.lt _ e).1; omega)))
  have W4 := hide hW4
  have F4 := hide hF4
  obtain ⟨⟨s0, s1, s2⟩, -, -, -⟩ := hX4
  obtain ⟨⟨m0, m1, m2, m3⟩, k0, k1, k2, k3⟩ := R4.out
  clear hW4 hK4 hF4
  go_wp2_with fail
  exact bodyPost_ret (v := .agg #[.int .i64 0, .slice ua (W.eraseIdx i).length uc, .slice va (F ++ [d]).length vc, .slice za n zc]) (by simp [results, Tryz.results60, go_sem, m0, m1, m2, m3]) rfl (ResF.box (B := w1.heap.size) W4.out F4.out ((G4.out.mono hT2).wide (by have := HYX.out.2.2.2; omega)) B4.out (by omega) (by omega))
end Go.Proofs.YtejfcapocikjmaaGreatDoor

