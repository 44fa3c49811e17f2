/-
  The model's ParseManifest.
-/
import Derived.Test.YtmehngcbafdcgaaDoorRdQ
import Derived.Test.YtmehngcbafdcgaaDoorManM
namespace Go.Proofs.YtmehngcbafdcgaaDoor
open Go.RowKit
set_option linter.unusedVariables false
set_option maxRecDepth 100000

theorem Three.kept {S : Nat → Prop} {w w' : World} {b : Nat} {u0 u1 u2 : Value} (h : Three w b u0 u1 u2) (hk : Kept S w w') (hn : ¬ S b) : Three w' b u0 u1 u2 := by
  have hlt : b < w.heap.size := World.block_lt_of_cell? w ⟨b, 0, none⟩ h.1.1
  exact ⟨⟨(hk.cell (p := ⟨b, 0, none⟩) hlt hn).trans h.1.1, (hk.cell (p := ⟨b, 1, none⟩) hlt hn).trans h.1.2.1, (hk.cell (p := ⟨b, 2, none⟩) hlt hn).trans h.1.2.2⟩, (hk.frozen (p := ⟨b, 0, none⟩) hlt hn).trans h.2.1, (hk.frozen (p := ⟨b, 1, none⟩) hlt hn).trans h.2.2.1, (hk.frozen (p := ⟨b, 2, none⟩) hlt hn).trans h.2.2.2⟩
theorem parseM_nil : parseM [] = none := rfl
theorem parseM_last {ys : Bs} {c : UInt8} (h : c ≠ 10) : parseM (ys ++ [c]) = none := by
  unfold parseM
  rw [if_neg]
  simp [h]
theorem parseM_cut (ys : Bs) : parseM (ys ++ [10]) = readM ys := by
  unfold parseM
  rw [if_pos (by simp)]
  simp
theorem mapM_len {ws : List Bs} {ds : List Int} (h : ws.mapM hexW = some ds) : ds.length = ws.length := by
  have := congrArg List.length (hexW_back h).1
  simpa using this
theorem readM_few {ys : Bs} {ws : List Bs} (hc : cutC 32 ys = ws) (h : ws.length < 3 ∨ 5 < ws.length) : readM ys = none := by
  unfold readM
  rw [hc]
  match ws, h with
  | [], _ => rfl
  | [_], _ => rfl
  | a :: n :: r, h =>
    simp only [List.length_cons] at h
    simp only
    split
    · cases hm : r.mapM hexW with
      | none => rfl
      | some ds =>
        have := mapM_len hm
        simp only
        rw [if_neg]
        intro hf
        have hF := manFault_fit.1 hf
        have h1 := hF.many
        have h2 : ds.length ≠ 0 := fun e => hF.some (List.length_eq_zero_iff.1 e)
        omega
    · rfl
theorem readM_word {ys a n : Bs} {r : List Bs} (hc : cutC 32 ys = a :: n :: r) (h : a ≠ imageW) : readM ys = none := by
  unfold readM; rw [hc]; simp only [if_neg h]
theorem readM_hex {ys n : Bs} {r : List Bs} (hc : cutC 32 ys = imageW :: n :: r) (h : r.mapM hexW = none) : readM ys = none := by
  unfold readM; rw [hc]; simp only [if_true, h]
theorem readM_all {ys n : Bs} {r : List Bs} {ds : List Int} (hc : cutC 32 ys = imageW :: n :: r) (h : r.mapM hexW = some ds) : readM ys = if manFault n ds = 0 then some (n, ds) else none := by
  unfold readM; rw [hc]; simp only [if_true, h]
theorem mapM_none : ∀ {r : List Bs} {x : Bs}, x ∈ r → hexW x = none → r.mapM hexW = none
  | [], _, h, _ => by simp at h
  | y :: r, x, h, hx => by
    rw [List.mapM_cons]
    rcases List.mem_cons.1 h with rfl | h
    · rw [hx]; rfl
    · rw [mapM_none h hx]
      cases hexW y <;> rfl
theorem mapM_snoc {r : List Bs} {j : Nat} {x : Bs} {done : List Int} {d : Int} (h : (r.take j).mapM hexW = some done) (hx : r[j]? = some x) (hd : hexW x = some d) : (r.take (j + 1)).mapM hexW = some (done ++ [d]) := by
  rw [take_snoc_at hx, List.mapM_append, h]
  simp [hd]
theorem l1ParseW (l : Bs) (w : World) : Calls Tryd.prog 24 #[.string (str l)] w fun e w' => e = .returned (.tuple #[.int .i64 ((hexW l).getD 0), .bool (hexW l).isSome]) ∧ w' = w := by
  by_cases h : l.length = 8
  · have := l1Parse_any (str l) w (by rw [str_size]; exact h)
    rw [str_data] at this
    unfold hexW
    rw [if_pos h]
    exact this
  · have := l1Parse_len (str l) w (by rw [str_size]; exact h)
    unfold hexW
    rw [if_neg h]
    exact this

theorem str_last (ys : Bs) (c : UInt8) (h : (str (ys ++ [c])).size - 1 < (str (ys ++ [c])).size) : (str (ys ++ [c]))[(str (ys ++ [c])).size - 1]'h = c := by
  have e : (str (ys ++ [c])).size - 1 = ys.length := by rw [str_size]; simp
  have : ∀ i (hi : i < (str (ys ++ [c])).size), i = ys.length → (str (ys ++ [c]))[i]'hi = c := by
    intro i hi hie
    subst hie
    have e2 : (str (ys ++ [c]))[ys.length]'hi = (ys ++ [c])[ys.length]'(by simp) := rfl
    rw [e2]
    simp
  exact this _ h e
set_option maxHeartbeats 3200000 in
theorem specParseManifest_any (t : Bs) (w : World) (hl : t.length ≤ 1048576) : Calls Tryd.prog 8 #[.string (str t)] w (ResM (parseM t) w) := by
  have X0 := hide ((Three.new w (.int .i64 0) (.string ⟨#[]⟩) (.slice none 0 0) 29).below (below_alloc _ (.cells #[.int .i64 5, .string ⟨#[]⟩, .slice none 0 0] 29)))
  have Y0 := hide (Three.new (w.alloc (.cells #[.int .i64 0, .string ⟨#[]⟩, .slice none 0 0] 29)) (.int .i64 5) (.string ⟨#[]⟩) (.slice none 0 0) 29)
  have B0 := hide (below_next (below_alloc w (.cells #[.int .i64 0, .string ⟨#[]⟩, .slice none 0 0] 29)) (below_alloc _ (.cells #[.int .i64 5, .string ⟨#[]⟩, .slice none 0 0] 29)))
  have hs1 : (w.alloc (.cells #[.int .i64 0, .string ⟨#[]⟩, .slice none 0 0] 29)).heap.size = w.heap.size + 1 := by simp
  rw [hs1] at Y0
  clear hs1
  obtain ⟨⟨t0, t1, t2⟩, z0, z1, z2⟩ := X0.out
  obtain ⟨⟨s0, s1, s2⟩, y0, y1, y2⟩ := Y0.out
  rcases List.eq_nil_or_concat t with rfl | ⟨ys, c, rfl⟩
  · rw [parseM_nil]
    go_enter Tryd.func8, Tryd.ntmps8
    go_wp2_with fail
    exact bodyPost_ret (v := .agg #[.int .i64 5, .string ⟨#[]⟩, .slice none 0 0]) (by simp [results, Tryd.results8, go_sem]) rfl ⟨rfl, below_next (below_alloc _ _) (below_alloc _ _)⟩
  · rw [List.concat_eq_append] at hl ⊢
    have hsz : (str (ys ++ [c])).size = ys.length + 1 := by rw [str_size]; simp
    have HE := hide (show (str (ys ++ [c])).extract 0 ((str (ys ++ [c])).size - 1) = str ys by
      have e : (str (ys ++ [c])).size - 1 = ys.length := by omega
      rw [e, Lib.extract_eq, str_data]
      simp [str])
    have HI := hide (str_last ys c)
    have hs0 : 1 ≤ (str (ys ++ [c])).size := by omega
    have hs1 : (str (ys ++ [c])).size ≤ 1048577 := by simp at hl; omega
    have hg0 : (0 : Int) ≤ ((str (ys ++ [c])).size : Int) - 1 := by omega
    have hg2 : ((str (ys ++ [c])).size : Int) - 1 < ((str (ys ++ [c])).size : Int) := by omega
    have hg1 : ¬ (((str (ys ++ [c])).size : Int)) < 1 := by omega
    have hyl : ys.length ≤ 1048576 := by simp at hl; omega
    clear hsz hl
    by_cases hc : c = 10
    · subst hc
      rw [parseM_cut]
      generalize str (ys ++ [10]) = S at *
      have hix : ∀ h : S.size - 1 < S.size, ((((S[S.size - 1]'h).toNat : Nat) : Int) != 10) = false := fun h => by rw [HI.out h]; rfl
      have hix2 := hix (by omega)
      clear HI hix
      go_enter Tryd.func8, Tryd.ntmps8
      go_wp2_with fail
      rw [HE.out]
      clear hix2 HE
      have HCU := hide (fun u => l3CutC_any 32 (str ys) u (by rw [str_size]; omega))
      rw [str_data] at HCU
      refine (HCU.out _).mono ?_
      rintro r w1 ⟨v, rfl, hO, hb1⟩
      have X1 := hide (X0.out.below hb1)
      have Y1 := hide (Y0.out.below hb1)
      have B1 := hide (below_next B0.out hb1)
      have O1 := hide hO
      have hcl := cutC_length (m := 32) ys
      obtain ⟨ws, hws⟩ : ∃ ws, ws = cutC 32 ys := ⟨_, rfl⟩
      have HW := hide hws.symm
      rw [← hws] at O1 hcl
      clear hO hb1 hws X0 Y0 B0 t0 t1 t2 z0 z1 z2 s0 s1 s2 y0 y1 y2 HCU
      obtain ⟨va, vc, rfl⟩ := O1.out.shape
      obtain ⟨⟨x0, x1, x2⟩, f0, f1, f2⟩ := X1.out
      obtain ⟨⟨y0, y1, y2⟩, g0, g1, g2⟩ := Y1.out
      by_cases h3 : ws.length < 3
      · have HN := hide (readM_few HW.out (.inl h3))
        have i3 : ((ws.length : Nat) : Int) < 3 := by omega
        go_wp2_with fail
        rw [HN.out]
        exact bodyPost_ret (v := .agg #[.int .i64 5, .string ⟨#[]⟩, .slice none 0 0]) (by simp [results, Tryd.results8, go_sem, x0, x1, x2]) rfl ⟨rfl, ((B1.out.setCell (p := ⟨w.heap.size, 0, none⟩) (Nat.le_refl _) _).setCell (p := ⟨w.heap.size, 1, none⟩) (Nat.le_refl _) _).setCell (p := ⟨w.heap.size, 2, none⟩) (Nat.le_refl _) _⟩
      · have i3 : ¬ ((ws.length : Nat) : Int) < 3 := by omega
        by_cases h5 : 5 < ws.length
        · have HN := hide (readM_few HW.out (.inr h5))
          have i5 : (5 : Int) < ((ws.length : Nat) : Int) := by omega
          go_wp2_with fail
          rw [HN.out]
          exact bodyPost_ret (v := .agg #[.int .i64 5, .string ⟨#[]⟩, .slice none 0 0]) (by simp [results, Tryd.results8, go_sem, x0, x1, x2]) rfl ⟨rfl, ((B1.out.setCell (p := ⟨w.heap.size, 0, none⟩) (Nat.le_refl _) _).setCell (p := ⟨w.heap.size, 1, none⟩) (Nat.le_refl _) _).setCell (p := ⟨w.heap.size, 2, none⟩) (Nat.le_refl _) _⟩
        · have i5 : ¬ (5 : Int) < ((ws.length : Nat) : Int) := by omega
          have i0 : (0 : Int) < ((ws.length : Nat) : Int) := by omega
          have i1 : (1 : Int) < ((ws.length : Nat) : Int) := by omega
          obtain ⟨a, n, rr, hwe⟩ : ∃ a n rr, ws = a :: n :: rr := by
            match ws, h3 with
            | a :: n :: rr, _ => exact ⟨a, n, rr, rfl⟩
            | [_], h3 => simp at h3
            | [], h3 => simp at h3
          obtain ⟨b, off, hva, hb, hcc⟩ := O1.out.reads (by rw [hwe]; simp)
          subst hva
          have ha : w1.cell? ⟨b, off, none⟩ = some (.string (str a)) := by have := hcc 0 (by omega); rw [hwe] at this; simpa using this
          have hnn : w1.cell? ⟨b, off + 1, none⟩ = some (.string (str n)) := by have := hcc 1 (by omega); rw [hwe] at this; simpa using this
          by_cases hai : a = imageW
          · subst hai
            have hs0 : ((str imageW).toList == [105, 109, 97, 103, 101]) = true := by rw [ByteArray.toList_eq, str_data]; rfl
            have HWE := hide (HW.out.trans hwe)
            have hwl : ws.length = rr.length + 2 := by rw [hwe]; simp
            have HCC : Hid (∀ j, j < rr.length → w1.cell? ⟨b, off + (j + 2), none⟩ = some (.string (str (rr.getD j [])))) := hide (fun j hj => by have := hcc (j + 2) (by omega); rw [hwe] at this; simpa using this)
            have hr3 : rr.length ≤ 3 := by omega
            clear hcc hwe
            have A2 := hide (below_alloc w1 (.cells #[.string (str n), .slice none 0 0] 27))
            have M2 := hide (Box.new w1 (.string (str n)) (.slice none 0 0) 27)
            have hbs : (w1.alloc (.cells #[.string (str n), .slice none 0 0] 27)).heap.size = w1.heap.size + 1 := by simp
            have hB1 : w.heap.size + 2 ≤ w1.heap.size := by have h1 := Y1.out.1.1; have := World.block_lt_of_cell? w1 _ h1; simp at this; omega
            obtain ⟨i0', hi0, hz0, hz1, hz2⟩ := info_parts Tryd.infoI64
            generalize str imageW = SI at *
            have X2 := hide (X1.out.below A2.out)
            have Y2 := hide (Y1.out.below A2.out)
            have B2 := hide (below_next B1.out A2.out)
            have HC2 : Hid (∀ j, j < rr.length → (w1.alloc (.cells #[.string (str n), .slice none 0 0] 27)).cell? ⟨b, off + (j + 2), none⟩ = some (.string (str (rr.getD j [])))) := hide (fun j hj => (A2.out.cell (p := ⟨b, off + (j + 2), none⟩) hb).trans (HCC.out j hj))
            clear HCC
            go_wp2_with fail
            generalize w1.alloc (.cells #[.string (str n), .slice none 0 0] 27) = W2 at *
            obtain ⟨bm, hbm⟩ : ∃ bm, bm = w1.heap.size := ⟨_, rfl⟩
            rw [← hbm] at M2 hbs hB1 hb ⊢
            clear hbm X1 Y1 B1 A2 x0 x1 x2 f0 f1 f2 y0 y1 y2 g0 g1 g2 O1 ha hnn hs0
            go_loopw [6, 7, 8] (fun i _ _ wr => ∃ (j : Nat) (done : List Int) (av : Option Addr) (cv : Nat), j ≤ rr.length ∧ done.length = j ∧ i = .int .i64 ((j : Int) + 2) ∧ Hid ((rr.take j).mapM hexW = some done) ∧ Hid (Box wr bm (.string (str n)) (.slice av j cv)) ∧ Hid (wr.ownsRow W2.heap.size 2 1 (.slice av j cv) j (done.map (Value.int .i64))) ∧ Hid (Kept (fun q => q = bm) W2 wr)) (fun i _ _ _ => rr.length + 2 - (intOf i).toNat)
            case atStart => exact ⟨0, [], none, 0, Nat.zero_le _, rfl, rfl, hide (by simp), M2, hide (World.ownsRow_nil _ _ _ _), hide (Kept.refl _ _)⟩
            case round =>
              obtain ⟨j, done, av, cv, hj, hdj, rfl, HD, HM, HO, HK⟩ := hrel
              obtain ⟨⟨m0, m1⟩, m2, m3⟩ := HM.out
              have BW := hide (B2.out.trans (HK.out.below (B := w.heap.size) (by omega) (fun q hq e => by omega)))
              by_cases hlt : j < rr.length
              · have hxj : rr[j]? = some (rr.getD j []) := by rw [List.getD_eq_getElem?_getD, List.getElem?_eq_getElem hlt]; rfl
                have hcx := (HK.out.cell (p := ⟨b, off + (j + 2), none⟩) (show b < W2.heap.size by omega) (show ¬ b = bm by omega)).trans (HC2.out j hlt)
                generalize rr.getD j [] = x at hxj hcx
                have HXJ := hide hxj
                clear hxj
                have e1 : (0 : Int) ≤ (j : Int) + 2 := by omega
                have e2 : (j : Int) + 2 < (rr.length : Int) + 2 := by omega
                have e3 : (j : Int) + 2 < ((rr.length + 2 : Nat) : Int) := by omega
                obtain ⟨⟨x0, x1, x2⟩, f0, f1, f2⟩ := X2.out.kept HK.out (show ¬ w.heap.size = bm by omega)
                obtain ⟨⟨y0, y1, y2⟩, g0, g1, g2⟩ := Y2.out.kept HK.out (show ¬ w.heap.size + 1 = bm by omega)
                cases hx : hexW x with
                | none =>
                  have HN := hide (readM_hex HWE.out (mapM_none (List.mem_of_getElem? HXJ.out) hx))
                  have HP := hide (fun u => l1ParseW x u)
                  rw [hx] at HP
                  clear hx
                  go_wp2_with fail
                  refine (HP.out _).mono ?_
                  rintro r w3 ⟨rfl, hw3⟩
                  have hw4 := hw3.symm
                  clear hw3
                  subst hw4
                  go_wp2_with fail
                  rw [HN.out]
                  exact bodyPost_ret (v := .agg #[.int .i64 5, .string ⟨#[]⟩, .slice none 0 0]) (by simp [results, Tryd.results8, go_sem, x0, x1, x2]) rfl ⟨rfl, ((BW.out.setCell (p := ⟨w.heap.size, 0, none⟩) (Nat.le_refl _) _).setCell (p := ⟨w.heap.size, 1, none⟩) (Nat.le_refl _) _).setCell (p := ⟨w.heap.size, 2, none⟩) (Nat.le_refl _) _⟩
                | some d =>
                  have HS := hide (mapM_snoc HD.out HXJ.out hx)
                  have HP := hide (fun u => l1ParseW x u)
                  rw [hx] at HP
                  clear hx
                  have hm1 : j + 1 ≤ maxLen := by unfold maxLen; omega
                  have hm2 : (j + 1) * 8 ≤ 140737488355328 := by omega
                  have hsz2 : W2.heap.size ≤ wr.heap.size := HK.out.size
                  go_wp2_with fail
                  refine (HP.out _).mono ?_
                  rintro r w3 ⟨rfl, hw3⟩
                  have hw4 := hw3.symm
                  clear hw3
                  subst hw4
                  have OL := hide HO.out.lt
                  go_wp2_with (at_builtin; refine wpList_append_one rfl (.tmp 65) (.tmp 67) 25 rfl W2.heap.size 2 i0' (.int .i64 0) 1 8 Tryd.underlying25 hi0 hz0 hz1 hz2 rfl (by decide) _ _ _ rfl HO.out rfl rfl (by intro u hu; simp at hu; subst hu; rfl) hm1 hm2 hsz2 ?_; intro v' w4 hown4 hkept; have O4 := hide hown4; have K4 := hide hkept; obtain ⟨av4, cv4, hv4⟩ := ownsRow_shape hown4; subst hv4; have M4 := hide (HM.out.kept hkept (fun hq => by have := OL.out _ hq; omega)); obtain ⟨⟨q0, q1⟩, q2, q3⟩ := M4.out; clear hown4 hkept)
                  have KS : Kept (fun q => q = bm) w4 (w4.setCell ⟨bm, 1, none⟩ (.slice av4 (j + 1) cv4)) := Kept.setCell (S := fun q => q = bm) (p := ⟨bm, 1, none⟩) (Kept.refl _ _) (fun _ => rfl) _
                  have M5 := hide (boxSnd M4.out (.slice av4 (j + 1) cv4))
                  have O5 := hide (ownsRow_kept O4.out KS (fun q hq e => by have := O4.out.lt q hq; omega))
                  have K5 := hide (Kept.setCell (S := fun q => q = bm) (p := ⟨bm, 1, none⟩) (HK.out.trans_own K4.out (fun q hq h => by have := OL.out q h; omega)) (fun _ => rfl) (.slice av4 (j + 1) cv4))
                  go_roundw
                  case rel => exact ⟨j + 1, done ++ [d], av4, cv4, by omega, by simp; omega, by go_num, HS, M5, hide (by rw [List.map_append]; exact O5.out), K5⟩
                  case measure => simp [intOf]; omega
              · have hje : j = rr.length := by omega
                subst hje
                have HA := hide (show rr.mapM hexW = some done by have := HD.out; rwa [List.take_length] at this)
                have HRA := hide (readM_all HWE.out HA.out)
                have e4 : ¬ (rr.length : Int) + 2 < (rr.length : Int) + 2 := by omega
                have hdl : done.length ≤ 1048576 := by omega
                have hnl : n.length ≤ 2097152 := by have h2 := cutC_each (m := 32) ys n (by rw [HWE.out]; simp); omega
                obtain ⟨⟨x0, x1, x2⟩, f0, f1, f2⟩ := X2.out.kept HK.out (show ¬ w.heap.size = bm by omega)
                have HX := hide (X2.out.kept HK.out (show ¬ w.heap.size = bm by omega))
                have HY := hide (Y2.out.kept HK.out (show ¬ w.heap.size + 1 = bm by omega))
                have HL5 := hide (l5Manifest_any n done av cv wr (ownIntsR HO.out hdj.symm) hnl hdl)
                rw [hdj] at HL5
                go_wp2_with fail
                refine HL5.out.mono ?_
                rintro r w5 ⟨rfl, b5⟩
                have B5 := hide (below_next BW.out b5)
                have M5 := hide (HM.out.below b5)
                have O5 := hide (ownsRow_below HO.out b5)
                clear x0 x1 x2 f0 f1 f2
                obtain ⟨⟨x0, x1, x2⟩, f0, f1, f2⟩ := HX.out.below b5
                obtain ⟨⟨y0, y1, y2⟩, g0, g1, g2⟩ := HY.out.below b5
                obtain ⟨⟨q0, q1⟩, q2, q3⟩ := M5.out
                clear b5 m0 m1 m2 m3
                by_cases hf : manFault n done = 0
                · have HR := hide (show readM ys = some (n, done) by rw [HRA.out, if_pos hf])
                  rw [hf]
                  clear hf
                  go_wp2_with fail
                  rw [HR.out]
                  refine bodyPost_ret (v := .agg #[.int .i64 0, .string (str n), .slice av rr.length cv]) (by simp [results, Tryd.results8, go_sem, x0, x1, x2]) rfl ⟨⟨av, cv, by rw [hdj], ?_⟩, ((B5.out.setCell (p := ⟨w.heap.size, 0, none⟩) (Nat.le_refl _) _).setCell (p := ⟨w.heap.size, 1, none⟩) (Nat.le_refl _) _).setCell (p := ⟨w.heap.size, 2, none⟩) (Nat.le_refl _) _⟩
                  rw [hdj]
                  have KF : Kept (fun q => q = w.heap.size) w5 (((w5.setCell ⟨w.heap.size, 0, none⟩ (.int .i64 0)).setCell ⟨w.heap.size, 1, none⟩ (.string (str n))).setCell ⟨w.heap.size, 2, none⟩ (.slice av rr.length cv)) := Kept.setCell (S := fun q => q = w.heap.size) (p := ⟨w.heap.size, 2, none⟩) (Kept.setCell (S := fun q => q = w.heap.size) (p := ⟨w.heap.size, 1, none⟩) (Kept.setCell (S := fun q => q = w.heap.size) (p := ⟨w.heap.size, 0, none⟩) (Kept.refl _ _) (fun _ => rfl) _) (fun _ => rfl) _) (fun _ => rfl) _
                  exact ownsRow_mono (ownsRow_kept O5.out KF (fun q hq e => by have := O5.out.lt q hq; omega)) (by omega)
                · have HR := hide (show readM ys = none by rw [HRA.out, if_neg hf])
                  have hfb : (manFault n done != 0) = true := by simp; exact hf
                  go_wp2_with fail
                  rw [HR.out]
                  exact bodyPost_ret (v := .agg #[.int .i64 5, .string ⟨#[]⟩, .slice none 0 0]) (by simp [results, Tryd.results8, go_sem, x0, x1, x2]) rfl ⟨rfl, ((B5.out.setCell (p := ⟨w.heap.size, 0, none⟩) (Nat.le_refl _) _).setCell (p := ⟨w.heap.size, 1, none⟩) (Nat.le_refl _) _).setCell (p := ⟨w.heap.size, 2, none⟩) (Nat.le_refl _) _⟩
          · have hs0 : ((str a).toList == [105, 109, 97, 103, 101]) = false := by rw [ByteArray.toList_eq, str_data, beq_eq_false_iff_ne]; exact hai
            have HN := hide (readM_word (HW.out.trans hwe) hai)
            clear hcc hwe
            go_wp2_with fail
            rw [HN.out]
            exact bodyPost_ret (v := .agg #[.int .i64 5, .string ⟨#[]⟩, .slice none 0 0]) (by simp [results, Tryd.results8, go_sem, x0, x1, x2]) rfl ⟨rfl, ((B1.out.setCell (p := ⟨w.heap.size, 0, none⟩) (Nat.le_refl _) _).setCell (p := ⟨w.heap.size, 1, none⟩) (Nat.le_refl _) _).setCell (p := ⟨w.heap.size, 2, none⟩) (Nat.le_refl _) _⟩
    · rw [parseM_last hc]
      generalize str (ys ++ [c]) = S at *
      have hix : ∀ h : S.size - 1 < S.size, ((((S[S.size - 1]'h).toNat : Nat) : Int) != 10) = true := fun h => by
        rw [HI.out h]
        simp only [bne_iff_ne, ne_eq]
        intro e
        apply hc
        apply UInt8.toNat_inj.1
        show c.toNat = 10
        omega
      have hix2 := hix (by omega)
      clear HI hix
      go_enter Tryd.func8, Tryd.ntmps8
      go_wp2_with fail
      exact bodyPost_ret (v := .agg #[.int .i64 5, .string ⟨#[]⟩, .slice none 0 0]) (by simp [results, Tryd.results8, go_sem]) rfl ⟨rfl, below_next (below_alloc _ _) (below_alloc _ _)⟩
end Go.Proofs.YtmehngcbafdcgaaDoor
