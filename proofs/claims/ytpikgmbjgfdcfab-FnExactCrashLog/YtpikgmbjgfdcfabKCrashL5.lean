/-
  Texts put together: LogZ.
-/
import Derived.Test.YtpikgmbjgfdcfabKCrashL4
namespace Go.Proofs.Ytpikgmbjgfdcfab
open Go.RowKit
set_option linter.unusedVariables false

theorem l1InY (v a b : Int) (w : World) (h : a ≤ v) (h2 : v ≤ b) : Calls Try.prog 15 #[.int .i64 v, .int .i64 a, .int .i64 b] w fun e w' => e = .returned (.bool true) ∧ w' = w := by
  have hd1 : decide (v ≥ a) = true := decide_eq_true h
  have hd2 : decide (v ≤ b) = true := decide_eq_true h2
  go_enter Try.func15, Try.ntmps15
  go_wp2_with fail
  go_ret
  exact ⟨rfl, rfl⟩
theorem l1InN (v a b : Int) (w : World) (h : ¬ (a ≤ v ∧ v ≤ b)) : Calls Try.prog 15 #[.int .i64 v, .int .i64 a, .int .i64 b] w fun e w' => e = .returned (.bool false) ∧ w' = w := by
  by_cases h1 : a ≤ v
  · have hd1 : decide (v ≥ a) = true := decide_eq_true h1
    have hd2 : decide (v ≤ b) = false := decide_eq_false fun e => h ⟨h1, e⟩
    clear h
    go_enter Try.func15, Try.ntmps15
    go_wp2_with fail
    go_ret
    exact ⟨rfl, rfl⟩
  · have hd1 : decide (v ≥ a) = false := decide_eq_false h1
    clear h
    go_enter Try.func15, Try.ntmps15
    go_wp2_with fail
    go_ret
    exact ⟨rfl, rfl⟩
theorem l14Of1_any (sa : Option Addr) (sc : Nat) (S : List Int) (w : World) (hs : Reads .u8 w sa S) (us : U8 S) (cs : S.length ≤ sc) (ns : S.length ≤ 1048576) :
    Calls Try.prog 17 #[.slice sa S.length sc, .slice none 0 0] w (ResG' 0 ((lines S).length : Nat) S [] w) :=
  l14Of_any sa none sc 0 S [] w ⟨hs, fun e => absurd rfl e, us, fun z hz => by simp at hz, cs, Nat.le_refl _, ns, by simp⟩
set_option maxRecDepth 100000 in
set_option maxHeartbeats 400000 in
theorem specCrashLog_bad (sa la : Option Addr) (sc lc : Nat) (S L : List Int) (k : Int) (w : World) (h : RdL' w sa sc S la lc L) (h0 : logF S L ≠ 0) :
    Calls Try.prog 5 #[.agg #[.slice sa S.length sc, .slice la L.length lc], .int .i64 k] w (ResG' (logF S L) 0 [] [] w) := by
  have A0 := hide (below_alloc w (.cells #[.slice sa S.length sc, .slice la L.length lc] 26))
  have A1 := hide (below_alloc (w.alloc (.cells #[.slice sa S.length sc, .slice la L.length lc] 26)) (.cells #[.int .i64 0, .int .i64 0, .slice none 0 0, .slice none 0 0] 28))
  have B0 := hide (below_next A0.out A1.out)
  have T0 := hide ((Two.new w (.slice sa S.length sc) (.slice la L.length lc) 26).below A1.out)
  have X4 := hide (Box4r.new (w.alloc (.cells #[.slice sa S.length sc, .slice la L.length lc] 26)) (.int .i64 0) (.int .i64 0) (.slice none 0 0) (.slice none 0 0) 28)
  rw [show (w.alloc (.cells #[.slice sa S.length sc, .slice la L.length lc] 26)).heap.size = w.heap.size + 1 by simp] at X4
  have HZ2 := hide (show ((w.alloc (.cells #[.slice sa S.length sc, .slice la L.length lc] 26)).alloc (.cells #[.int .i64 0, .int .i64 0, .slice none 0 0, .slice none 0 0] 28)).heap.size = w.heap.size + 2 by simp)
  have HF := hide (l14Fault_any w.heap.size sa la sc lc S L _ T0.out (h.below B0.out))
  have hne : (logF S L == 0) = false := beq_eq_false_iff_ne.2 h0
  generalize logF S L = F at *
  have HR := hide h
  clear h h0
  go_enter Try.func5, Try.ntmps5
  obtain ⟨t0, t1⟩ := T0.out
  go_wp2_with fail
  refine HF.out.mono ?_
  rintro e w1 ⟨rfl, hb1⟩
  clear t0 t1 HF
  generalize (w.alloc (.cells #[.slice sa S.length sc, .slice la L.length lc] 26)).alloc (.cells #[.int .i64 0, .int .i64 0, .slice none 0 0, .slice none 0 0] 28) = W0 at *
  have hs1 : w.heap.size + 2 ≤ w1.heap.size := by have := hb1.size; have := HZ2.out; omega
  have B1 := hide (below_next B0.out hb1)
  have X1 := hide (X4.out.below hb1)
  have T1 := hide (T0.out.below hb1)
  clear hb1 X4 T0 A1 A0
  obtain ⟨⟨y0, y1, y2, y3⟩, yf⟩ := X1.out
  have yf0 := yf 0
  have yf1 := yf 1
  have yf2 := yf 2
  have yf3 := yf 3
  clear yf
  go_wp2_with fail
  refine bodyPost_ret (v := .agg #[.int .i64 F, .int .i64 0, .slice none 0 0, .slice none 0 0]) (by simp [results, Try.results5, go_sem, y0, y1, y2, y3]) rfl ⟨none, 0, none, 0, w.heap.size, rfl, GB.void _ _ _, GB.void _ _ _, Nat.le_refl _, by simp; omega, below_four B1.out (by omega) _ _ _ _⟩
set_option maxRecDepth 100000 in
set_option maxHeartbeats 400000 in
theorem specCrashLog_range (sa la : Option Addr) (sc lc : Nat) (S L : List Int) (k : Int) (w : World) (h : RdL' w sa sc S la lc L) (h0 : logF S L = 0) (hk : k < 0 ∨ (L.length : Int) < k) :
    Calls Try.prog 5 #[.agg #[.slice sa S.length sc, .slice la L.length lc], .int .i64 k] w (ResG' 3 0 [] [] w) := by
  have HI := hide (fun u => l1InN k 0 (L.length : Int) u (by omega))
  have A0 := hide (below_alloc w (.cells #[.slice sa S.length sc, .slice la L.length lc] 26))
  have A1 := hide (below_alloc (w.alloc (.cells #[.slice sa S.length sc, .slice la L.length lc] 26)) (.cells #[.int .i64 0, .int .i64 0, .slice none 0 0, .slice none 0 0] 28))
  have B0 := hide (below_next A0.out A1.out)
  have T0 := hide ((Two.new w (.slice sa S.length sc) (.slice la L.length lc) 26).below A1.out)
  have X4 := hide (Box4r.new (w.alloc (.cells #[.slice sa S.length sc, .slice la L.length lc] 26)) (.int .i64 0) (.int .i64 0) (.slice none 0 0) (.slice none 0 0) 28)
  rw [show (w.alloc (.cells #[.slice sa S.length sc, .slice la L.length lc] 26)).heap.size = w.heap.size + 1 by simp] at X4
  have HZ2 := hide (show ((w.alloc (.cells #[.slice sa S.length sc, .slice la L.length lc] 26)).alloc (.cells #[.int .i64 0, .int .i64 0, .slice none 0 0, .slice none 0 0] 28)).heap.size = w.heap.size + 2 by simp)
  have HF := hide (l14Fault_any w.heap.size sa la sc lc S L _ T0.out (h.below B0.out))
  rw [h0] at HF
  have HR := hide h
  clear h h0
  go_enter Try.func5, Try.ntmps5
  obtain ⟨t0, t1⟩ := T0.out
  go_wp2_with fail
  refine HF.out.mono ?_
  rintro e w1 ⟨rfl, hb1⟩
  clear t0 t1 HF
  generalize (w.alloc (.cells #[.slice sa S.length sc, .slice la L.length lc] 26)).alloc (.cells #[.int .i64 0, .int .i64 0, .slice none 0 0, .slice none 0 0] 28) = W0 at *
  have hs1 : w.heap.size + 2 ≤ w1.heap.size := by have := hb1.size; have := HZ2.out; omega
  have B1 := hide (below_next B0.out hb1)
  have X1 := hide (X4.out.below hb1)
  have T1 := hide (T0.out.below hb1)
  clear hb1 X4 T0 A1 A0
  obtain ⟨⟨y0, y1, y2, y3⟩, yf⟩ := X1.out
  have yf0 := yf 0
  have yf1 := yf 1
  have yf2 := yf 2
  have yf3 := yf 3
  clear yf
  obtain ⟨t0, t1⟩ := T1.out
  go_wp2_with fail
  refine (HI.out _).mono ?_
  rintro e w2 ⟨rfl, rfl⟩
  go_wp2_with fail
  refine bodyPost_ret (v := .agg #[.int .i64 3, .int .i64 0, .slice none 0 0, .slice none 0 0]) (by simp [results, Try.results5, go_sem, y0, y1, y2, y3]) rfl ⟨none, 0, none, 0, w.heap.size, rfl, GB.void _ _ _, GB.void _ _ _, Nat.le_refl _, by simp; omega, below_four B1.out (by omega) _ _ _ _⟩
set_option maxRecDepth 100000 in
set_option maxHeartbeats 1600000 in
theorem specCrashLog_ok (sa la : Option Addr) (sc lc : Nat) (S L : List Int) (kk : Nat) (w : World) (h : RdL' w sa sc S la lc L) (h0 : logF S L = 0) (hk : kk ≤ L.length) :
    Calls Try.prog 5 #[.agg #[.slice sa S.length sc, .slice la L.length lc], .int .i64 (kk : Int)] w (ResG' 0 ((lines (S ++ L.take kk)).length : Nat) (crashZ S L kk) [] w) := by
  obtain ⟨i1, ki, kz0, kz1, kz2⟩ := info_parts Try.infoU8
  have hsz := (logF_zero h0).1
  have hkl : (L.take kk).length = kk := by rw [List.length_take]; omega
  obtain ⟨A, hA⟩ : ∃ A, S ++ L.take kk = A := ⟨_, rfl⟩
  have hal : S.length + kk = A.length := by rw [← hA, List.length_append, hkl]
  have hel := end_le A
  obtain ⟨Z, hZ⟩ : ∃ Z, crashZ S L kk = Z := ⟨_, rfl⟩
  have hZ2 : A.take (endL (lines A)) = Z := by rw [take_end, ← hA]; exact hZ
  have hzl : endL (lines A) = Z.length := by rw [← hZ2, List.length_take]; omega
  have hlz : lines A = lines Z := by
    rw [← hZ2, take_end]
    exact (lines_of_flat (lines_good _ A (Nat.le_refl _)).1).symm
  rw [hA, hZ, hlz]
  have HAU := hide (show U8 A from hA ▸ u8_app h.su8 (u8_take h.lu8 _))
  have HZU := hide (show U8 Z from hZ2 ▸ u8_take HAU.out _)
  have HRT := hide (fun (u : World) (p : Option Addr) (c : Nat) (hr : Reads .u8 u p A) (hc : A.length ≤ c) => show Reads .u8 u p Z ∧ Z.length ≤ c from ⟨by
    rw [← hZ2]
    intro hne
    obtain ⟨b, off, rfl, hb, hcc⟩ := hr (fun e => hne (by simp [e]))
    refine ⟨b, off, rfl, hb, fun i hi => ?_⟩
    rw [List.length_take] at hi
    rw [hcc i (by omega)]
    simp only [List.getD_eq_getElem?_getD, List.getElem?_take]
    rw [if_pos (by omega)], by omega⟩)
  have HRD : Hid (∀ (u : World) (p : Option Addr) (c : Nat), Below w.heap.size w u → Reads .u8 u p A → A.length ≤ c → Calls Try.prog 16 #[.slice p A.length c] u fun e w' => ∃ av cv, e = .returned (.tuple #[.slice av (lines Z).length cv, .int .i64 (Z.length : Int)]) ∧ Below u.heap.size u w') := hide (fun u p c hb hr hc => by
    refine (l14Read_any p c A.length A u hr HAU.out hc (by omega) rfl).mono ?_
    rintro e w' ⟨av, cv, rfl, -, hb'⟩
    exact ⟨av, cv, by rw [hlz, ← hzl, hlz], hb'⟩)
  have HLT := hide (fun (u : World) (p : Option Addr) (hr : Reads .u8 u p L) => show Reads .u8 u p (L.take kk) from fun hne => by
    obtain ⟨b, off, rfl, hb, hc⟩ := hr (fun e => hne (by simp [e]))
    refine ⟨b, off, rfl, hb, fun i hi => ?_⟩
    rw [List.length_take] at hi
    rw [hc i (by omega)]
    simp only [List.getD_eq_getElem?_getD, List.getElem?_take]
    rw [if_pos (by omega)])
  have HAL := hide hal
  have HAA := hide hA
  have HKL := hide hkl
  have hm1 : 0 + S.length ≤ maxLen := by unfold maxLen; omega
  have hm2 : (0 + S.length) * 1 ≤ 140737488355328 := by omega
  have hm3 : S.length + kk ≤ maxLen := by unfold maxLen; omega
  have hm4 : (S.length + kk) * 1 ≤ 140737488355328 := by omega
  have hz2000 : Z.length ≤ 2000 := by omega
  have ha2000 : A.length ≤ 2000 := by omega
  have hza : Z.length ≤ A.length := by omega
  have HI := hide (fun u => l1InY kk 0 (L.length : Int) u (by omega) (by omega))
  have hlc : kk ≤ lc := by have := h.lcap; omega
  clear hA hal hel hZ hZ2 hzl hlz hkl
  have A0 := hide (below_alloc w (.cells #[.slice sa S.length sc, .slice la L.length lc] 26))
  have A1 := hide (below_alloc (w.alloc (.cells #[.slice sa S.length sc, .slice la L.length lc] 26)) (.cells #[.int .i64 0, .int .i64 0, .slice none 0 0, .slice none 0 0] 28))
  have B0 := hide (below_next A0.out A1.out)
  have T0 := hide ((Two.new w (.slice sa S.length sc) (.slice la L.length lc) 26).below A1.out)
  have X4 := hide (Box4r.new (w.alloc (.cells #[.slice sa S.length sc, .slice la L.length lc] 26)) (.int .i64 0) (.int .i64 0) (.slice none 0 0) (.slice none 0 0) 28)
  rw [show (w.alloc (.cells #[.slice sa S.length sc, .slice la L.length lc] 26)).heap.size = w.heap.size + 1 by simp] at X4
  have HZ2 := hide (show ((w.alloc (.cells #[.slice sa S.length sc, .slice la L.length lc] 26)).alloc (.cells #[.int .i64 0, .int .i64 0, .slice none 0 0, .slice none 0 0] 28)).heap.size = w.heap.size + 2 by simp)
  have HF := hide (l14Fault_any w.heap.size sa la sc lc S L _ T0.out (h.below B0.out))
  rw [h0] at HF
  have HR := hide h
  clear h h0
  go_enter Try.func5, Try.ntmps5
  obtain ⟨t0, t1⟩ := T0.out
  go_wp2_with fail
  refine HF.out.mono ?_
  rintro e w1 ⟨rfl, hb1⟩
  clear t0 t1 HF
  generalize (w.alloc (.cells #[.slice sa S.length sc, .slice la L.length lc] 26)).alloc (.cells #[.int .i64 0, .int .i64 0, .slice none 0 0, .slice none 0 0] 28) = W0 at *
  have hs1 : w.heap.size + 2 ≤ w1.heap.size := by have := hb1.size; have := HZ2.out; omega
  have B1 := hide (below_next B0.out hb1)
  have X1 := hide (X4.out.below hb1)
  have T1 := hide (T0.out.below hb1)
  clear hb1 X4 T0 A1 A0
  cases la with
  | none =>
    obtain rfl : kk = 0 := by
      by_cases hne : L = []
      · subst hne; simpa using hk
      · obtain ⟨_, _, e, _⟩ := HR.out.loose hne; cases e
    have KB := hide (fun (u : World) (hb : Below w1.heap.size w1 u) => T1.out.below hb)
    unfold Two at KB
    obtain ⟨t0, t1⟩ := T1.out
    go_wp2_with fail
    refine (HI.out _).mono ?_
    rintro e w2 ⟨rfl, hw2⟩
    have hw2' := hw2.symm
    subst hw2'
    go_wp2_with fail
    refine wp_region_held_drew (S := fun u => u.cell? ⟨w.heap.size, 0, none⟩ = some (.slice sa S.length sc) ∧ u.cell? ⟨w.heap.size, 1, none⟩ = some (.slice none L.length lc)) (by kernel_rfl) (KB.out _ (Below.refl _ _).drew) (fun hHeld => ?_)
    change wpAnyH _ _ _ _ _ _ (Array.replicate _ false) _ (World.drew _)
    have BR := hide ((Below.refl w1.heap.size w1).drew)
    have hsD : w1.heap.size ≤ w1.drew.heap.size := Nat.le_refl _
    generalize w1.drew = D at *
    refine tk' 1 22 (.pointer (some ⟨w.heap.size, 0, none⟩)) hHeld rfl (by kernel_rfl) (by kernel_rfl) (by kernel_rfl) (fun _ _ _ h => h) (Or.inl ⟨by rfl, ?_⟩) ?_
    · rintro w ⟨q0, q1⟩
      go_simp <;> (first | done | omega | (intro _; omega))
    try simp only [Act.put, List.setIfInBounds_toArray, List.set_cons_zero, List.set_cons_succ]
    refine tk' 2 23 (.slice sa S.length sc) hHeld rfl (by kernel_rfl) (by kernel_rfl) (by kernel_rfl) (fun _ _ _ h => h) (Or.inl ⟨by rfl, ?_⟩) ?_
    · rintro w ⟨q0, q1⟩
      go_simp <;> (first | done | omega | (intro _; omega))
    try simp only [Act.put, List.setIfInBounds_toArray, List.set_cons_zero, List.set_cons_succ]
    refine tk' 4 25 (.pointer (some ⟨w.heap.size, 1, none⟩)) hHeld rfl (by kernel_rfl) (by kernel_rfl) (by kernel_rfl) (fun _ _ _ h => h) (Or.inl ⟨by rfl, ?_⟩) ?_
    · rintro w ⟨q0, q1⟩
      go_simp <;> (first | done | omega | (intro _; omega))
    try simp only [Act.put, List.setIfInBounds_toArray, List.set_cons_zero, List.set_cons_succ]
    refine tk' 5 26 (.slice none L.length lc) hHeld rfl (by kernel_rfl) (by kernel_rfl) (by kernel_rfl) (fun _ _ _ h => h) (Or.inl ⟨by rfl, ?_⟩) ?_
    · rintro w ⟨q0, q1⟩
      go_simp <;> (first | done | omega | (intro _; omega))
    try simp only [Act.put, List.setIfInBounds_toArray, List.set_cons_zero, List.set_cons_succ]
    refine tk' 6 27 (.int .i64 (0 : Int)) hHeld rfl (by kernel_rfl) (by kernel_rfl) (by kernel_rfl) (fun _ _ _ h => h) (Or.inl ⟨by rfl, ?_⟩) ?_
    · rintro w ⟨q0, q1⟩
      go_simp <;> (first | done | omega | (intro _; omega))
    try simp only [Act.put, List.setIfInBounds_toArray, List.set_cons_zero, List.set_cons_succ]
    refine tk' 7 28 (.slice none 0 lc) hHeld rfl (by kernel_rfl) (by kernel_rfl) (by kernel_rfl) (fun _ _ _ h => h) (Or.inl ⟨by rfl, ?_⟩) ?_
    · rintro w ⟨q0, q1⟩
      go_simp <;> (first | done | omega | (intro _; omega))
    try simp only [Act.put, List.setIfInBounds_toArray, List.set_cons_zero, List.set_cons_succ]
    refine wpAnyH_ready (rs := [0]) (by kernel_rfl) (by simp) ?_
    refine AllReadyH.cons rfl (fun K hK => ?_) AllReadyH.nil
    have hb2 := below_next BR.out (below_alloc D (.cells #[] 5))
    have O0 := hide (made_zero D 5 D.heap.size D.heap.size (Nat.le_refl _) rfl)
    have hsE : D.heap.size < (D.alloc (.cells #[] 5)).heap.size := by simp
    have B2 := hide hb2
    clear hb2
    go_simp
    refine hK.out _ _ (KB.out _ B2.out) (fun hHeld => ?_)
    clear hK K BR
    try simp only [Act.put, List.setIfInBounds_toArray, List.set_cons_zero, List.set_cons_succ]
    have hgD : D.heap.size = D.heap.size := rfl
    obtain ⟨g, hg⟩ : ∃ g, g = D.heap.size := ⟨_, rfl⟩
    have hgw : w1.heap.size ≤ g := by omega
    rw [← hg] at O0 hsE
    generalize D.alloc (.cells #[] 5) = W2 at *
    try rw [← hg]
    clear hgD
    refine wpAnyH_ready (rs := [3]) (by kernel_rfl) (by simp) ?_
    refine AllReadyH.cons rfl (fun K hK => ?_) AllReadyH.nil
    refine step_app_rd rfl (.tmp 21) (.tmp 23) 22 rfl g 5 i1 Try.underlying22 ki kz0 kz1 kz2 _ 0 [] rfl O0.out sa _ sc S rfl rfl (HR.out.sure.below (below_next B1.out B2.out)) _ rfl hm1 hm2 (by omega) ?_
    intro av3 cv3 w3 ho3 hk3
    have O3 : Hid (w3.ownsRow g 5 1 (.slice av3 S.length cv3) S.length (S.map (Value.int .u8))) := hide (by simpa using ho3)
    have K3 := hide (show Kept (fun b => some g = some b) _ w3 from hk3)
    have B3 := hide (B2.out.trans (K3.out.below (B := w1.heap.size) (by omega) (fun k hk e => by simp at e; omega)))
    have hs3 := K3.out.size
    clear ho3 hk3
    rw [Nat.zero_add]
    refine hK.out _ _ (KB.out _ B3.out) (fun hHeld => ?_)
    clear hK K
    simp only [Act.put, List.setIfInBounds_toArray]
    refine wpAnyH_ready (rs := [8]) (by kernel_rfl) (by simp) ?_
    refine AllReadyH.cons rfl (fun K hK => ?_) AllReadyH.nil
    refine step_app_rd rfl (.tmp 24) (.tmp 28) 22 rfl g 5 i1 Try.underlying22 ki kz0 kz1 kz2 _ S.length S rfl O3.out none _ lc (L.take 0) rfl HKL.out.symm (HLT.out _ _ (HR.out.loose.below (below_next B1.out B3.out))) _ rfl hm3 hm4 (by omega) ?_
    intro av4 cv4 w4 ho4 hk4
    have O4 : Hid (w4.ownsRow g 5 1 (.slice av4 A.length cv4) A.length (A.map (Value.int .u8))) := hide (by rw [← HAL.out, ← HAA.out]; exact ho4)
    have B4 := hide (B3.out.trans (hk4.below (B := w1.heap.size) (by omega) (fun k hk e => by have := (World.ownsRow.lt O3.out k e).1; omega)))
    have hs4 := hk4.size
    clear ho4 hk4
    rw [HAL.out]
    refine hK.out _ _ (KB.out _ B4.out) (fun hHeld => ?_)
    clear hK K
    simp only [Act.put]
    refine tk' 9 6 (.slice av4 A.length cv4) hHeld rfl (by kernel_rfl) (by kernel_rfl) (by kernel_rfl) (fun _ _ _ h => h) (Or.inl ⟨by rfl, ?_⟩) ?_
    · rintro w ⟨q0, q1⟩
      go_simp <;> (first | done | omega | (intro _; omega))
    simp only [Act.put]
    refine wpAnyH_done (by kernel_rfl) ?_ _
    have RA := hide (ownsRow_own O4.out rfl).reads
    have hca : A.length ≤ cv4 := ownsRow_cap O4.out
    have hzc : Z.length ≤ cv4 := by omega
    go_wp2_with fail
    refine (HRD.out w4 av4 cv4 (below_next B1.out B4.out) RA.out hca).mono ?_
    rintro e w6 ⟨vb, vd, rfl, hb6⟩
    have B6a := hide (below_next B4.out hb6)
    have RA6 := hide (RA.out.below hb6)
    clear hb6
    have hr6 := HRT.out w6 av4 cv4 RA6.out hca
    have HOF := hide (l14Of1_any av4 cv4 Z w6 hr6.1 HZU.out hr6.2 (by omega))
    clear hr6
    have hs6 := B6a.out.size
    cases av4 with
    | none =>
      go_wp2_with fail
      refine HOF.out.mono ?_
      rintro e w5 ⟨ja, jc, ka, kc, M, rfl, hg1, hg2, hM1, hM2, hb5⟩
      have B5 := hide (below_next B6a.out hb5)
      have hs5 := hb5.size
      have G1 := hide hg1
      have G2 := hide hg2
      clear hg1 hg2 hb5
      obtain ⟨⟨y0, y1, y2, y3⟩, yf⟩ := X1.out.below B5.out
      have yf0 := yf 0
      have yf1 := yf 1
      have yf2 := yf 2
      have yf3 := yf 3
      clear yf
      have B6 := hide (below_next B1.out B5.out)
      have hg1 := G1.out.kept (S := fun b => b = w.heap.size + 1) (Kept.four4 w5 (w.heap.size + 1) (.int .i64 0) (.int .i64 ((lines Z).length : Int)) (.slice ja Z.length jc) (.slice ka 0 kc)) (fun b h1 h2 e => by omega)
      have hg2 := G2.out.kept (S := fun b => b = w.heap.size + 1) (Kept.four4 w5 (w.heap.size + 1) (.int .i64 0) (.int .i64 ((lines Z).length : Int)) (.slice ja Z.length jc) (.slice ka 0 kc)) (fun b h1 h2 e => by omega)
      have G1' := hide hg1
      have G2' := hide hg2
      clear hg1 hg2 G1 G2
      go_wp2_with fail
      refine bodyPost_ret (v := .agg #[.int .i64 0, .int .i64 ((lines Z).length : Int), .slice ja Z.length jc, .slice ka 0 kc]) (by simp [results, Try.results5, go_sem, y0, y1, y2, y3]) rfl ⟨ja, jc, ka, kc, M, rfl, G1'.out.low (by omega), ?_, by omega, by simp; omega, below_four B6.out (by omega) _ _ _ _⟩
      exact ⟨G2'.out.1, fun x hx => by have := G2'.out.2 x hx; simp; omega⟩
    | some g4 =>
      go_wp2_with fail
      refine HOF.out.mono ?_
      rintro e w5 ⟨ja, jc, ka, kc, M, rfl, hg1, hg2, hM1, hM2, hb5⟩
      have B5 := hide (below_next B6a.out hb5)
      have hs5 := hb5.size
      have G1 := hide hg1
      have G2 := hide hg2
      clear hg1 hg2 hb5
      obtain ⟨⟨y0, y1, y2, y3⟩, yf⟩ := X1.out.below B5.out
      have yf0 := yf 0
      have yf1 := yf 1
      have yf2 := yf 2
      have yf3 := yf 3
      clear yf
      have B6 := hide (below_next B1.out B5.out)
      have hg1 := G1.out.kept (S := fun b => b = w.heap.size + 1) (Kept.four4 w5 (w.heap.size + 1) (.int .i64 0) (.int .i64 ((lines Z).length : Int)) (.slice ja Z.length jc) (.slice ka 0 kc)) (fun b h1 h2 e => by omega)
      have hg2 := G2.out.kept (S := fun b => b = w.heap.size + 1) (Kept.four4 w5 (w.heap.size + 1) (.int .i64 0) (.int .i64 ((lines Z).length : Int)) (.slice ja Z.length jc) (.slice ka 0 kc)) (fun b h1 h2 e => by omega)
      have G1' := hide hg1
      have G2' := hide hg2
      clear hg1 hg2 G1 G2
      go_wp2_with fail
      refine bodyPost_ret (v := .agg #[.int .i64 0, .int .i64 ((lines Z).length : Int), .slice ja Z.length jc, .slice ka 0 kc]) (by simp [results, Try.results5, go_sem, y0, y1, y2, y3]) rfl ⟨ja, jc, ka, kc, M, rfl, G1'.out.low (by omega), ?_, by omega, by simp; omega, below_four B6.out (by omega) _ _ _ _⟩
      exact ⟨G2'.out.1, fun x hx => by have := G2'.out.2 x hx; simp; omega⟩
  | some ad =>
    have KB := hide (fun (u : World) (hb : Below w1.heap.size w1 u) => T1.out.below hb)
    unfold Two at KB
    obtain ⟨t0, t1⟩ := T1.out
    go_wp2_with fail
    refine (HI.out _).mono ?_
    rintro e w2 ⟨rfl, hw2⟩
    have hw2' := hw2.symm
    subst hw2'
    go_wp2_with fail
    refine wp_region_held_drew (S := fun u => u.cell? ⟨w.heap.size, 0, none⟩ = some (.slice sa S.length sc) ∧ u.cell? ⟨w.heap.size, 1, none⟩ = some (.slice (some ad) L.length lc)) (by kernel_rfl) (KB.out _ (Below.refl _ _).drew) (fun hHeld => ?_)
    change wpAnyH _ _ _ _ _ _ (Array.replicate _ false) _ (World.drew _)
    have BR := hide ((Below.refl w1.heap.size w1).drew)
    have hsD : w1.heap.size ≤ w1.drew.heap.size := Nat.le_refl _
    generalize w1.drew = D at *
    refine tk' 1 22 (.pointer (some ⟨w.heap.size, 0, none⟩)) hHeld rfl (by kernel_rfl) (by kernel_rfl) (by kernel_rfl) (fun _ _ _ h => h) (Or.inl ⟨by rfl, ?_⟩) ?_
    · rintro w ⟨q0, q1⟩
      go_simp <;> (first | done | omega | (intro _; omega))
    try simp only [Act.put, List.setIfInBounds_toArray, List.set_cons_zero, List.set_cons_succ]
    refine tk' 2 23 (.slice sa S.length sc) hHeld rfl (by kernel_rfl) (by kernel_rfl) (by kernel_rfl) (fun _ _ _ h => h) (Or.inl ⟨by rfl, ?_⟩) ?_
    · rintro w ⟨q0, q1⟩
      go_simp <;> (first | done | omega | (intro _; omega))
    try simp only [Act.put, List.setIfInBounds_toArray, List.set_cons_zero, List.set_cons_succ]
    refine tk' 4 25 (.pointer (some ⟨w.heap.size, 1, none⟩)) hHeld rfl (by kernel_rfl) (by kernel_rfl) (by kernel_rfl) (fun _ _ _ h => h) (Or.inl ⟨by rfl, ?_⟩) ?_
    · rintro w ⟨q0, q1⟩
      go_simp <;> (first | done | omega | (intro _; omega))
    try simp only [Act.put, List.setIfInBounds_toArray, List.set_cons_zero, List.set_cons_succ]
    refine tk' 5 26 (.slice (some ad) L.length lc) hHeld rfl (by kernel_rfl) (by kernel_rfl) (by kernel_rfl) (fun _ _ _ h => h) (Or.inl ⟨by rfl, ?_⟩) ?_
    · rintro w ⟨q0, q1⟩
      go_simp <;> (first | done | omega | (intro _; omega))
    try simp only [Act.put, List.setIfInBounds_toArray, List.set_cons_zero, List.set_cons_succ]
    refine tk' 6 27 (.int .i64 (kk : Int)) hHeld rfl (by kernel_rfl) (by kernel_rfl) (by kernel_rfl) (fun _ _ _ h => h) (Or.inl ⟨by rfl, ?_⟩) ?_
    · rintro w ⟨q0, q1⟩
      go_simp <;> (first | done | omega | (intro _; omega))
    try simp only [Act.put, List.setIfInBounds_toArray, List.set_cons_zero, List.set_cons_succ]
    refine tk' 7 28 (.slice (some ad) kk lc) hHeld rfl (by kernel_rfl) (by kernel_rfl) (by kernel_rfl) (fun _ _ _ h => h) (Or.inl ⟨by rfl, ?_⟩) ?_
    · rintro w ⟨q0, q1⟩
      go_simp <;> (first | done | omega | (intro _; omega))
    try simp only [Act.put, List.setIfInBounds_toArray, List.set_cons_zero, List.set_cons_succ]
    refine wpAnyH_ready (rs := [0]) (by kernel_rfl) (by simp) ?_
    refine AllReadyH.cons rfl (fun K hK => ?_) AllReadyH.nil
    have hb2 := below_next BR.out (below_alloc D (.cells #[] 5))
    have O0 := hide (made_zero D 5 D.heap.size D.heap.size (Nat.le_refl _) rfl)
    have hsE : D.heap.size < (D.alloc (.cells #[] 5)).heap.size := by simp
    have B2 := hide hb2
    clear hb2
    go_simp
    refine hK.out _ _ (KB.out _ B2.out) (fun hHeld => ?_)
    clear hK K BR
    try simp only [Act.put, List.setIfInBounds_toArray, List.set_cons_zero, List.set_cons_succ]
    have hgD : D.heap.size = D.heap.size := rfl
    obtain ⟨g, hg⟩ : ∃ g, g = D.heap.size := ⟨_, rfl⟩
    have hgw : w1.heap.size ≤ g := by omega
    rw [← hg] at O0 hsE
    generalize D.alloc (.cells #[] 5) = W2 at *
    try rw [← hg]
    clear hgD
    refine wpAnyH_ready (rs := [3]) (by kernel_rfl) (by simp) ?_
    refine AllReadyH.cons rfl (fun K hK => ?_) AllReadyH.nil
    refine step_app_rd rfl (.tmp 21) (.tmp 23) 22 rfl g 5 i1 Try.underlying22 ki kz0 kz1 kz2 _ 0 [] rfl O0.out sa _ sc S rfl rfl (HR.out.sure.below (below_next B1.out B2.out)) _ rfl hm1 hm2 (by omega) ?_
    intro av3 cv3 w3 ho3 hk3
    have O3 : Hid (w3.ownsRow g 5 1 (.slice av3 S.length cv3) S.length (S.map (Value.int .u8))) := hide (by simpa using ho3)
    have K3 := hide (show Kept (fun b => some g = some b) _ w3 from hk3)
    have B3 := hide (B2.out.trans (K3.out.below (B := w1.heap.size) (by omega) (fun k hk e => by simp at e; omega)))
    have hs3 := K3.out.size
    clear ho3 hk3
    rw [Nat.zero_add]
    refine hK.out _ _ (KB.out _ B3.out) (fun hHeld => ?_)
    clear hK K
    simp only [Act.put, List.setIfInBounds_toArray]
    refine wpAnyH_ready (rs := [8]) (by kernel_rfl) (by simp) ?_
    refine AllReadyH.cons rfl (fun K hK => ?_) AllReadyH.nil
    refine step_app_rd rfl (.tmp 24) (.tmp 28) 22 rfl g 5 i1 Try.underlying22 ki kz0 kz1 kz2 _ S.length S rfl O3.out (some ad) _ lc (L.take kk) rfl HKL.out.symm (HLT.out _ _ (HR.out.loose.below (below_next B1.out B3.out))) _ rfl hm3 hm4 (by omega) ?_
    intro av4 cv4 w4 ho4 hk4
    have O4 : Hid (w4.ownsRow g 5 1 (.slice av4 A.length cv4) A.length (A.map (Value.int .u8))) := hide (by rw [← HAL.out, ← HAA.out]; exact ho4)
    have B4 := hide (B3.out.trans (hk4.below (B := w1.heap.size) (by omega) (fun k hk e => by have := (World.ownsRow.lt O3.out k e).1; omega)))
    have hs4 := hk4.size
    clear ho4 hk4
    rw [HAL.out]
    refine hK.out _ _ (KB.out _ B4.out) (fun hHeld => ?_)
    clear hK K
    simp only [Act.put]
    refine tk' 9 6 (.slice av4 A.length cv4) hHeld rfl (by kernel_rfl) (by kernel_rfl) (by kernel_rfl) (fun _ _ _ h => h) (Or.inl ⟨by rfl, ?_⟩) ?_
    · rintro w ⟨q0, q1⟩
      go_simp <;> (first | done | omega | (intro _; omega))
    simp only [Act.put]
    refine wpAnyH_done (by kernel_rfl) ?_ _
    have RA := hide (ownsRow_own O4.out rfl).reads
    have hca : A.length ≤ cv4 := ownsRow_cap O4.out
    have hzc : Z.length ≤ cv4 := by omega
    go_wp2_with fail
    refine (HRD.out w4 av4 cv4 (below_next B1.out B4.out) RA.out hca).mono ?_
    rintro e w6 ⟨vb, vd, rfl, hb6⟩
    have B6a := hide (below_next B4.out hb6)
    have RA6 := hide (RA.out.below hb6)
    clear hb6
    have hr6 := HRT.out w6 av4 cv4 RA6.out hca
    have HOF := hide (l14Of1_any av4 cv4 Z w6 hr6.1 HZU.out hr6.2 (by omega))
    clear hr6
    have hs6 := B6a.out.size
    cases av4 with
    | none =>
      go_wp2_with fail
      refine HOF.out.mono ?_
      rintro e w5 ⟨ja, jc, ka, kc, M, rfl, hg1, hg2, hM1, hM2, hb5⟩
      have B5 := hide (below_next B6a.out hb5)
      have hs5 := hb5.size
      have G1 := hide hg1
      have G2 := hide hg2
      clear hg1 hg2 hb5
      obtain ⟨⟨y0, y1, y2, y3⟩, yf⟩ := X1.out.below B5.out
      have yf0 := yf 0
      have yf1 := yf 1
      have yf2 := yf 2
      have yf3 := yf 3
      clear yf
      have B6 := hide (below_next B1.out B5.out)
      have hg1 := G1.out.kept (S := fun b => b = w.heap.size + 1) (Kept.four4 w5 (w.heap.size + 1) (.int .i64 0) (.int .i64 ((lines Z).length : Int)) (.slice ja Z.length jc) (.slice ka 0 kc)) (fun b h1 h2 e => by omega)
      have hg2 := G2.out.kept (S := fun b => b = w.heap.size + 1) (Kept.four4 w5 (w.heap.size + 1) (.int .i64 0) (.int .i64 ((lines Z).length : Int)) (.slice ja Z.length jc) (.slice ka 0 kc)) (fun b h1 h2 e => by omega)
      have G1' := hide hg1
      have G2' := hide hg2
      clear hg1 hg2 G1 G2
      go_wp2_with fail
      refine bodyPost_ret (v := .agg #[.int .i64 0, .int .i64 ((lines Z).length : Int), .slice ja Z.length jc, .slice ka 0 kc]) (by simp [results, Try.results5, go_sem, y0, y1, y2, y3]) rfl ⟨ja, jc, ka, kc, M, rfl, G1'.out.low (by omega), ?_, by omega, by simp; omega, below_four B6.out (by omega) _ _ _ _⟩
      exact ⟨G2'.out.1, fun x hx => by have := G2'.out.2 x hx; simp; omega⟩
    | some g4 =>
      go_wp2_with fail
      refine HOF.out.mono ?_
      rintro e w5 ⟨ja, jc, ka, kc, M, rfl, hg1, hg2, hM1, hM2, hb5⟩
      have B5 := hide (below_next B6a.out hb5)
      have hs5 := hb5.size
      have G1 := hide hg1
      have G2 := hide hg2
      clear hg1 hg2 hb5
      obtain ⟨⟨y0, y1, y2, y3⟩, yf⟩ := X1.out.below B5.out
      have yf0 := yf 0
      have yf1 := yf 1
      have yf2 := yf 2
      have yf3 := yf 3
      clear yf
      have B6 := hide (below_next B1.out B5.out)
      have hg1 := G1.out.kept (S := fun b => b = w.heap.size + 1) (Kept.four4 w5 (w.heap.size + 1) (.int .i64 0) (.int .i64 ((lines Z).length : Int)) (.slice ja Z.length jc) (.slice ka 0 kc)) (fun b h1 h2 e => by omega)
      have hg2 := G2.out.kept (S := fun b => b = w.heap.size + 1) (Kept.four4 w5 (w.heap.size + 1) (.int .i64 0) (.int .i64 ((lines Z).length : Int)) (.slice ja Z.length jc) (.slice ka 0 kc)) (fun b h1 h2 e => by omega)
      have G1' := hide hg1
      have G2' := hide hg2
      clear hg1 hg2 G1 G2
      go_wp2_with fail
      refine bodyPost_ret (v := .agg #[.int .i64 0, .int .i64 ((lines Z).length : Int), .slice ja Z.length jc, .slice ka 0 kc]) (by simp [results, Try.results5, go_sem, y0, y1, y2, y3]) rfl ⟨ja, jc, ka, kc, M, rfl, G1'.out.low (by omega), ?_, by omega, by simp; omega, below_four B6.out (by omega) _ _ _ _⟩
      exact ⟨G2'.out.1, fun x hx => by have := G2'.out.2 x hx; simp; omega⟩
end Go.Proofs.Ytpikgmbjgfdcfab

