/-
  Texts put together: LogW LogZ LogAa LogH.
-/
import Derived.Test.YtpikgmbjgfdcfaaKLogs3
import Derived.ProofKit
import Derived.ChangeOld
import Derived.Test.YtpikgmbjgfdcfaaKLogs2
namespace Go.Proofs.Ytpikgmbjgfdcfaa
open Go.RowKit
set_option linter.unusedVariables false

set_option maxRecDepth 100000 in
set_option maxHeartbeats 400000 in
theorem implSyncLog_bad (sa la : Option Addr) (sc lc : Nat) (S L : List Int) (w : World) (h : RdL' w sa sc S la lc L) (h0 : logF S L ≠ 0) :
    Calls Try.prog 14 #[.agg #[.slice sa S.length sc, .slice la L.length lc]] w (ResG' (logF S L) 0 [] [] w) := by
  have A0 := hide (below_alloc w (.cells #[.slice sa S.length sc, .slice la L.length lc] 25))
  have A1 := hide (below_alloc (w.alloc (.cells #[.slice sa S.length sc, .slice la L.length lc] 25)) (.cells #[.int .i64 0, .int .i64 0, .slice none 0 0, .slice none 0 0] 29))
  have B0 := hide (below_next A0.out A1.out)
  have T0 := hide ((Two.new w (.slice sa S.length sc) (.slice la L.length lc) 25).below A1.out)
  have X4 := hide (Box4r.new (w.alloc (.cells #[.slice sa S.length sc, .slice la L.length lc] 25)) (.int .i64 0) (.int .i64 0) (.slice none 0 0) (.slice none 0 0) 29)
  rw [show (w.alloc (.cells #[.slice sa S.length sc, .slice la L.length lc] 25)).heap.size = w.heap.size + 1 by simp] at X4
  have HZ2 := hide (show ((w.alloc (.cells #[.slice sa S.length sc, .slice la L.length lc] 25)).alloc (.cells #[.int .i64 0, .int .i64 0, .slice none 0 0, .slice none 0 0] 29)).heap.size = w.heap.size + 2 by simp)
  have HF := hide (fun (u : World) (hb : Below w.heap.size w u) => implLogFault_any sa la sc lc S L u (h.below hb))
  have hne : (logF S L == 0) = false := beq_eq_false_iff_ne.2 h0
  generalize logF S L = F at *
  have HR := hide h
  clear h h0
  go_enter Try.func14, Try.ntmps14
  obtain ⟨t0, t1⟩ := T0.out
  go_wp2_with fail
  refine (HF.out _ B0.out).mono ?_
  rintro e w1 ⟨rfl, hb1⟩
  clear t0 t1
  generalize (w.alloc (.cells #[.slice sa S.length sc, .slice la L.length lc] 25)).alloc (.cells #[.int .i64 0, .int .i64 0, .slice none 0 0, .slice none 0 0] 29) = W0 at *
  have hs1 : w.heap.size + 2 ≤ w1.heap.size := by have := hb1.size; have := HZ2.out; omega
  have B1 := hide (below_next B0.out hb1)
  have X1 := hide (X4.out.below hb1)
  have T1 := hide (T0.out.below hb1)
  clear hb1 X4 T0 A1 A0
  obtain ⟨⟨y0, y1, y2, y3⟩, yf⟩ := X1.out
  have yf0 := yf 0
  have yf1 := yf 1
  have yf2 := yf 2
  have yf3 := yf 3
  clear yf
  go_wp2_with fail
  refine bodyPost_ret (v := .agg #[.int .i64 F, .int .i64 0, .slice none 0 0, .slice none 0 0]) (by simp [results, Try.results14, go_sem, y0, y1, y2, y3]) rfl ⟨none, 0, none, 0, w.heap.size, rfl, GB.void _ _ _, GB.void _ _ _, Nat.le_refl _, by simp; omega, below_four B1.out (by omega) _ _ _ _⟩
set_option maxRecDepth 100000 in
set_option maxHeartbeats 400000 in
theorem implSyncLog_ok (sa la : Option Addr) (sc lc : Nat) (S L : List Int) (w : World) (h : RdL' w sa sc S la lc L) (h0 : logF S L = 0) :
    Calls Try.prog 14 #[.agg #[.slice sa S.length sc, .slice la L.length lc]] w (ResG' 0 ((lines (S ++ L)).length : Nat) (S ++ L) [] w) := by
  have hsz := (logF_zero h0).1
  obtain ⟨Z, hZ⟩ : ∃ Z, S ++ L = Z := ⟨_, rfl⟩
  rw [hZ]
  have hzl : Z.length ≤ 2000 := by rw [← hZ, List.length_append]; omega
  have A0 := hide (below_alloc w (.cells #[.slice sa S.length sc, .slice la L.length lc] 25))
  have A1 := hide (below_alloc (w.alloc (.cells #[.slice sa S.length sc, .slice la L.length lc] 25)) (.cells #[.int .i64 0, .int .i64 0, .slice none 0 0, .slice none 0 0] 29))
  have B0 := hide (below_next A0.out A1.out)
  have T0 := hide ((Two.new w (.slice sa S.length sc) (.slice la L.length lc) 25).below A1.out)
  have X4 := hide (Box4r.new (w.alloc (.cells #[.slice sa S.length sc, .slice la L.length lc] 25)) (.int .i64 0) (.int .i64 0) (.slice none 0 0) (.slice none 0 0) 29)
  rw [show (w.alloc (.cells #[.slice sa S.length sc, .slice la L.length lc] 25)).heap.size = w.heap.size + 1 by simp] at X4
  have HZ2 := hide (show ((w.alloc (.cells #[.slice sa S.length sc, .slice la L.length lc] 25)).alloc (.cells #[.int .i64 0, .int .i64 0, .slice none 0 0, .slice none 0 0] 29)).heap.size = w.heap.size + 2 by simp)
  have HF := hide (fun (u : World) (hb : Below w.heap.size w u) => implLogFault_any sa la sc lc S L u (h.below hb))
  rw [h0] at HF
  have HR := hide h
  have HZ := hide hZ
  have HZU := hide (show U8 Z from hZ ▸ u8_app h.su8 h.lu8)
  clear hZ
  clear h h0
  go_enter Try.func14, Try.ntmps14
  obtain ⟨t0, t1⟩ := T0.out
  go_wp2_with fail
  refine (HF.out _ B0.out).mono ?_
  rintro e w1 ⟨rfl, hb1⟩
  clear t0 t1
  generalize (w.alloc (.cells #[.slice sa S.length sc, .slice la L.length lc] 25)).alloc (.cells #[.int .i64 0, .int .i64 0, .slice none 0 0, .slice none 0 0] 29) = W0 at *
  have hs1 : w.heap.size + 2 ≤ w1.heap.size := by have := hb1.size; have := HZ2.out; omega
  have B1 := hide (below_next B0.out hb1)
  have X1 := hide (X4.out.below hb1)
  have T1 := hide (T0.out.below hb1)
  clear hb1 X4 T0 A1 A0
  obtain ⟨t0, t1⟩ := T1.out
  go_wp2_with fail
  refine (join2_any sa la sc lc S L Z _ _ HZ.out (by simp) (by simp) (HR.out.sure.below (below_next B1.out (below_alloc _ _))) (HR.out.loose.below (below_next B1.out (below_alloc _ _))) (by omega)).mono ?_
  rintro e w2 ⟨ja, jc, rfl, hg2, hb2⟩
  have hs2 := hb2.size
  have hs2' : w1.heap.size + 1 ≤ w2.heap.size := by simpa using hs2
  have HG := hide (hg2.low (B' := w1.heap.size + 1) (by simp))
  have B2 := hide (below_next B1.out (below_next (below_alloc w1 _) hb2))
  have X2 := hide (X1.out.below (below_next (below_alloc w1 _) hb2))
  have hjc : Z.length ≤ jc := ownsRow_cap hg2.1
  clear hg2 hb2 hs2
  go_wp2_with fail
  refine (counted1_any ja jc Z w2 HG.out.own.reads HZU.out hjc (by omega)).mono ?_
  rintro e w3 ⟨rfl, hb3⟩
  have hs3 := hb3.size
  have HG3 := hide (HG.out.below hb3)
  have B3 := hide (below_next B2.out hb3)
  obtain ⟨⟨y0, y1, y2, y3⟩, yf⟩ := X2.out.below hb3
  have yf0 := yf 0
  have yf1 := yf 1
  have yf2 := yf 2
  have yf3 := yf 3
  clear yf
  generalize (lines Z).length = k at *
  clear hb3 HG X2 B2
  go_wp2_with fail
  refine bodyPost_ret (v := .agg #[.int .i64 0, .int .i64 (k : Int), .slice ja Z.length jc, .slice none 0 0]) (by simp [results, Try.results14, go_sem, y0, y1, y2, y3]) rfl ⟨ja, jc, none, 0, w2.heap.size, rfl, ?_, GB.void _ _ _, by omega, by simp; omega, below_four B3.out (by omega) _ _ _ _⟩
  exact (HG3.out.kept (S := fun b => b = w.heap.size + 1) (Kept.four4 w3 (w.heap.size + 1) _ _ _ _) (fun b h1 h2 e => by omega)).low (by omega)
set_option maxRecDepth 100000 in
set_option maxHeartbeats 400000 in
theorem implCrashLog_bad (sa la : Option Addr) (sc lc : Nat) (S L : List Int) (k : Int) (w : World) (h : RdL' w sa sc S la lc L) (h0 : logF S L ≠ 0) :
    Calls Try.prog 11 #[.agg #[.slice sa S.length sc, .slice la L.length lc], .int .i64 k] w (ResG' (logF S L) 0 [] [] w) := by
  have A0 := hide (below_alloc w (.cells #[.slice sa S.length sc, .slice la L.length lc] 25))
  have A1 := hide (below_alloc (w.alloc (.cells #[.slice sa S.length sc, .slice la L.length lc] 25)) (.cells #[.int .i64 0, .int .i64 0, .slice none 0 0, .slice none 0 0] 29))
  have B0 := hide (below_next A0.out A1.out)
  have T0 := hide ((Two.new w (.slice sa S.length sc) (.slice la L.length lc) 25).below A1.out)
  have X4 := hide (Box4r.new (w.alloc (.cells #[.slice sa S.length sc, .slice la L.length lc] 25)) (.int .i64 0) (.int .i64 0) (.slice none 0 0) (.slice none 0 0) 29)
  rw [show (w.alloc (.cells #[.slice sa S.length sc, .slice la L.length lc] 25)).heap.size = w.heap.size + 1 by simp] at X4
  have HZ2 := hide (show ((w.alloc (.cells #[.slice sa S.length sc, .slice la L.length lc] 25)).alloc (.cells #[.int .i64 0, .int .i64 0, .slice none 0 0, .slice none 0 0] 29)).heap.size = w.heap.size + 2 by simp)
  have HF := hide (fun (u : World) (hb : Below w.heap.size w u) => implLogFault_any sa la sc lc S L u (h.below hb))
  have hne : (logF S L == 0) = false := beq_eq_false_iff_ne.2 h0
  generalize logF S L = F at *
  have HR := hide h
  clear h h0
  go_enter Try.func11, Try.ntmps11
  obtain ⟨t0, t1⟩ := T0.out
  go_wp2_with fail
  refine (HF.out _ B0.out).mono ?_
  rintro e w1 ⟨rfl, hb1⟩
  clear t0 t1
  generalize (w.alloc (.cells #[.slice sa S.length sc, .slice la L.length lc] 25)).alloc (.cells #[.int .i64 0, .int .i64 0, .slice none 0 0, .slice none 0 0] 29) = W0 at *
  have hs1 : w.heap.size + 2 ≤ w1.heap.size := by have := hb1.size; have := HZ2.out; omega
  have B1 := hide (below_next B0.out hb1)
  have X1 := hide (X4.out.below hb1)
  have T1 := hide (T0.out.below hb1)
  clear hb1 X4 T0 A1 A0
  obtain ⟨⟨y0, y1, y2, y3⟩, yf⟩ := X1.out
  have yf0 := yf 0
  have yf1 := yf 1
  have yf2 := yf 2
  have yf3 := yf 3
  clear yf
  go_wp2_with fail
  refine bodyPost_ret (v := .agg #[.int .i64 F, .int .i64 0, .slice none 0 0, .slice none 0 0]) (by simp [results, Try.results11, go_sem, y0, y1, y2, y3]) rfl ⟨none, 0, none, 0, w.heap.size, rfl, GB.void _ _ _, GB.void _ _ _, Nat.le_refl _, by simp; omega, below_four B1.out (by omega) _ _ _ _⟩
set_option maxRecDepth 100000 in
set_option maxHeartbeats 400000 in
theorem implCrashLog_range (sa la : Option Addr) (sc lc : Nat) (S L : List Int) (k : Int) (w : World) (h : RdL' w sa sc S la lc L) (h0 : logF S L = 0) (hk : k < 0 ∨ (L.length : Int) < k) :
    Calls Try.prog 11 #[.agg #[.slice sa S.length sc, .slice la L.length lc], .int .i64 k] w (ResG' 3 0 [] [] w) := by
  have A0 := hide (below_alloc w (.cells #[.slice sa S.length sc, .slice la L.length lc] 25))
  have A1 := hide (below_alloc (w.alloc (.cells #[.slice sa S.length sc, .slice la L.length lc] 25)) (.cells #[.int .i64 0, .int .i64 0, .slice none 0 0, .slice none 0 0] 29))
  have B0 := hide (below_next A0.out A1.out)
  have T0 := hide ((Two.new w (.slice sa S.length sc) (.slice la L.length lc) 25).below A1.out)
  have X4 := hide (Box4r.new (w.alloc (.cells #[.slice sa S.length sc, .slice la L.length lc] 25)) (.int .i64 0) (.int .i64 0) (.slice none 0 0) (.slice none 0 0) 29)
  rw [show (w.alloc (.cells #[.slice sa S.length sc, .slice la L.length lc] 25)).heap.size = w.heap.size + 1 by simp] at X4
  have HZ2 := hide (show ((w.alloc (.cells #[.slice sa S.length sc, .slice la L.length lc] 25)).alloc (.cells #[.int .i64 0, .int .i64 0, .slice none 0 0, .slice none 0 0] 29)).heap.size = w.heap.size + 2 by simp)
  have HF := hide (fun (u : World) (hb : Below w.heap.size w u) => implLogFault_any sa la sc lc S L u (h.below hb))
  rw [h0] at HF
  have HR := hide h
  clear h h0
  go_enter Try.func11, Try.ntmps11
  obtain ⟨t0, t1⟩ := T0.out
  go_wp2_with fail
  refine (HF.out _ B0.out).mono ?_
  rintro e w1 ⟨rfl, hb1⟩
  clear t0 t1
  generalize (w.alloc (.cells #[.slice sa S.length sc, .slice la L.length lc] 25)).alloc (.cells #[.int .i64 0, .int .i64 0, .slice none 0 0, .slice none 0 0] 29) = W0 at *
  have hs1 : w.heap.size + 2 ≤ w1.heap.size := by have := hb1.size; have := HZ2.out; omega
  have B1 := hide (below_next B0.out hb1)
  have X1 := hide (X4.out.below hb1)
  have T1 := hide (T0.out.below hb1)
  clear hb1 X4 T0 A1 A0
  obtain ⟨⟨y0, y1, y2, y3⟩, yf⟩ := X1.out
  have yf0 := yf 0
  have yf1 := yf 1
  have yf2 := yf 2
  have yf3 := yf 3
  clear yf
  obtain ⟨t0, t1⟩ := T1.out
  rcases hk with hk | hk
  · have hd : decide (k < 0) = true := decide_eq_true hk
    go_wp2_with fail
    refine bodyPost_ret (v := .agg #[.int .i64 3, .int .i64 0, .slice none 0 0, .slice none 0 0]) (by simp [results, Try.results11, go_sem, y0, y1, y2, y3]) rfl ⟨none, 0, none, 0, w.heap.size, rfl, GB.void _ _ _, GB.void _ _ _, Nat.le_refl _, by simp; omega, below_four B1.out (by omega) _ _ _ _⟩
  · have hd : decide (k < 0) = false := decide_eq_false (by omega)
    have hd2 : decide ((L.length : Int) < k) = true := decide_eq_true hk
    have hk0 : ¬ k < 0 := by omega
    go_wp2_with fail
    refine bodyPost_ret (v := .agg #[.int .i64 3, .int .i64 0, .slice none 0 0, .slice none 0 0]) (by simp [results, Try.results11, go_sem, y0, y1, y2, y3]) rfl ⟨none, 0, none, 0, w.heap.size, rfl, GB.void _ _ _, GB.void _ _ _, Nat.le_refl _, by simp; omega, below_four B1.out (by omega) _ _ _ _⟩
theorem crash_eq {S L : List Int} (h0 : logF S L = 0) (k : Nat) : lines (S ++ L.take k) = lines S ++ lines (L.take k) ∧ S ++ flatL (lines (L.take k)) = flatL (lines (S ++ L.take k)) ∧ lines (S ++ flatL (lines (L.take k))) = lines (S ++ L.take k) := by
  obtain ⟨-, hS, -⟩ := logF_zero h0
  have e1 := lines_app hS (L.take k)
  have g := (lines_good _ (L.take k) (Nat.le_refl _)).1
  have e2 : S ++ flatL (lines (L.take k)) = flatL (lines (S ++ L.take k)) := by
    rw [e1]
    conv => lhs; rw [(whole_iff hS).1]
    simp [flatL]
  exact ⟨e1, e2, by rw [lines_app hS, lines_of_flat g, e1]⟩
def crashZ (S L : List Int) (k : Nat) : List Int := flatL (lines (S ++ L.take k))
set_option maxRecDepth 100000 in
set_option maxHeartbeats 800000 in
theorem implCrashLog_ok (sa la : Option Addr) (sc lc : Nat) (S L : List Int) (kk : Nat) (w : World) (h : RdL' w sa sc S la lc L) (h0 : logF S L = 0) (hk : kk ≤ L.length) :
    Calls Try.prog 11 #[.agg #[.slice sa S.length sc, .slice la L.length lc], .int .i64 (kk : Int)] w (ResG' 0 ((lines (S ++ L.take kk)).length : Nat) (crashZ S L kk) [] w) := by
  have hsz := (logF_zero h0).1
  obtain ⟨ce1, ce2, ce3⟩ := crash_eq h0 kk
  have hkl : (L.take kk).length = kk := by rw [List.length_take]; omega
  have hel := end_le (L.take kk)
  obtain ⟨Z, hZ⟩ : ∃ Z, crashZ S L kk = Z := ⟨_, rfl⟩
  have hZ2 : S ++ (L.take kk).take (endL (lines (L.take kk))) = Z := by rw [take_end, ce2]; exact hZ
  have hZU : U8 Z := hZ2 ▸ u8_app h.su8 (u8_take (u8_take h.lu8 _) _)
  have hzl : Z.length ≤ 2000 := by rw [← hZ2, List.length_append, List.length_take]; omega
  have hlz : lines (S ++ L.take kk) = lines Z := by rw [← hZ2, take_end]; exact ce3.symm
  rw [hZ, hlz]
  have HWL : Hid (∀ (u : World) (p : Option Addr), Below w.heap.size w u → Reads .u8 u p (L.take kk) → Calls Try.prog 46 #[.slice p kk lc] u fun e w' => ∃ a' c', e = .returned (.slice a' (endL (lines (L.take kk))) c') ∧ (∀ v, Reads .u8 v p (L.take kk) → Reads .u8 v a' ((L.take kk).take (endL (lines (L.take kk))))) ∧ Below u.heap.size u w') := hide (fun u p hb hr => by
    have := wholeLines_any p lc (L.take kk) u hr (u8_take h.lu8 _) (by rw [hkl]; have := h.lcap; omega) (by rw [hkl]; omega)
    rw [hkl] at this
    exact this)
  have HLT := hide (fun (u : World) (p : Option Addr) (hr : Reads .u8 u p L) => show Reads .u8 u p (L.take kk) from fun hne => by
    obtain ⟨b, off, rfl, hb, hc⟩ := hr (fun e => hne (by simp [e]))
    refine ⟨b, off, rfl, hb, fun i hi => ?_⟩
    rw [List.length_take] at hi
    rw [hc i (by omega)]
    simp only [List.getD_eq_getElem?_getD, List.getElem?_take]
    rw [if_pos (by omega)])
  have HJ : Hid (∀ (u : World) (p : Option Addr) (c g : Nat), Below w.heap.size w u → (∀ v, Below w.heap.size w v → Reads .u8 v p ((L.take kk).take (endL (lines (L.take kk))))) → u.cell? ⟨g, 0, none⟩ = some (.slice sa S.length sc) → u.cell? ⟨g, 1, none⟩ = some (.slice p (endL (lines (L.take kk))) c) → Calls Try.prog 45 #[.slice (some ⟨g, 0, none⟩) 2 2] u fun e w' => ∃ a' c', e = .returned (.slice a' Z.length c') ∧ GB u.heap.size w'.heap.size w' (.slice a' Z.length c') Z ∧ Below u.heap.size u w') := hide (fun u p c g hb hr h1 h2 => by
    have hl : ((L.take kk).take (endL (lines (L.take kk)))).length = endL (lines (L.take kk)) := by rw [List.length_take]; omega
    exact join2_any sa p sc c S _ Z g u hZ2 h1 (by rw [hl]; exact h2) (h.sure.below hb) (hr u hb) (by rw [hl]; omega))
  have hlc : kk ≤ lc := by have := h.lcap; omega
  have HZU := hide hZU
  have hE : endL (lines (L.take kk)) ≤ kk := by omega
  generalize endL (lines (L.take kk)) = E at *
  clear ce1 ce2 ce3 hZ hZ2 hZU hlz hkl hel
  have A0 := hide (below_alloc w (.cells #[.slice sa S.length sc, .slice la L.length lc] 25))
  have A1 := hide (below_alloc (w.alloc (.cells #[.slice sa S.length sc, .slice la L.length lc] 25)) (.cells #[.int .i64 0, .int .i64 0, .slice none 0 0, .slice none 0 0] 29))
  have B0 := hide (below_next A0.out A1.out)
  have T0 := hide ((Two.new w (.slice sa S.length sc) (.slice la L.length lc) 25).below A1.out)
  have X4 := hide (Box4r.new (w.alloc (.cells #[.slice sa S.length sc, .slice la L.length lc] 25)) (.int .i64 0) (.int .i64 0) (.slice none 0 0) (.slice none 0 0) 29)
  rw [show (w.alloc (.cells #[.slice sa S.length sc, .slice la L.length lc] 25)).heap.size = w.heap.size + 1 by simp] at X4
  have HZ2 := hide (show ((w.alloc (.cells #[.slice sa S.length sc, .slice la L.length lc] 25)).alloc (.cells #[.int .i64 0, .int .i64 0, .slice none 0 0, .slice none 0 0] 29)).heap.size = w.heap.size + 2 by simp)
  have HF := hide (fun (u : World) (hb : Below w.heap.size w u) => implLogFault_any sa la sc lc S L u (h.below hb))
  rw [h0] at HF
  have HR := hide h
  clear h h0
  go_enter Try.func11, Try.ntmps11
  obtain ⟨t0, t1⟩ := T0.out
  go_wp2_with fail
  refine (HF.out _ B0.out).mono ?_
  rintro e w1 ⟨rfl, hb1⟩
  clear t0 t1
  generalize (w.alloc (.cells #[.slice sa S.length sc, .slice la L.length lc] 25)).alloc (.cells #[.int .i64 0, .int .i64 0, .slice none 0 0, .slice none 0 0] 29) = W0 at *
  have hs1 : w.heap.size + 2 ≤ w1.heap.size := by have := hb1.size; have := HZ2.out; omega
  have B1 := hide (below_next B0.out hb1)
  have X1 := hide (X4.out.below hb1)
  have T1 := hide (T0.out.below hb1)
  clear hb1 X4 T0 A1 A0
  obtain ⟨t0, t1⟩ := T1.out
  have hd : decide ((kk : Int) < 0) = false := decide_eq_false (by omega)
  have hd2 : decide ((L.length : Int) < (kk : Int)) = false := decide_eq_false (by omega)
  have hd3 : ¬ ((L.length : Int) < (kk : Int)) := by omega
  cases la with
  | none =>
    obtain rfl : kk = 0 := by
      by_cases hne : L = []
      · subst hne; simpa using hk
      · obtain ⟨_, _, e, _⟩ := HR.out.loose hne; cases e
    have KB := hide (fun (u : World) (hb : Below w1.heap.size w1 u) => T1.out.below hb)
    unfold Two at KB
    go_wp2_with fail
    obtain ⟨k0, k1⟩ := KB.out w1 (Below.refl _ _)
    clear t0 t1
    go_region_held3 (fun u => u.cell? ⟨w.heap.size, 0, none⟩ = some (.slice sa S.length sc) ∧ u.cell? ⟨w.heap.size, 1, none⟩ = some (.slice none L.length lc)) (first | exact KB.out _ BB3.out | exact KB.out _ BB2.out | exact KB.out _ (below_next BB1.out (below_alloc _ _)) | exact KB.out _ BB1.out | exact KB.out _ (Below.refl _ _).drew | go_keep)
      ((first
        | (go_at_call 46; refine (HWL.out _ _ (below_next B1.out (Below.refl _ _).drew) (HLT.out _ _ (HR.out.loose.below (below_next B1.out (Below.refl _ _).drew)))).mono ?_; rintro r wr1 ⟨wa, wc, rfl, hr6, hb6⟩; have BB1 := hide ((Below.refl w1.heap.size w1).drew.trans hb6); have R6 := hide hr6; clear hr6 hb6)
        | (go_at_call 45; refine (HJ.out _ wa wc _ (below_next B1.out (below_next BB1.out (below_alloc _ _))) (fun v hv => R6.out v (HLT.out _ _ (HR.out.loose.below hv))) (by simp) (by simp)).mono ?_; rintro r wr2 ⟨ja, jc, rfl, hg7, hb7⟩; have BB2 := hide (below_next BB1.out (below_next (below_alloc _ _) hb7)); have hs7 : wr1.heap.size + 1 ≤ wr2.heap.size := (by have := hb7.size; simpa using this); have HG7 := hide (hg7.low (B' := wr1.heap.size + 1) (by simp)); have hjc : Z.length ≤ jc := ownsRow_cap hg7.1; clear hg7 hb7)
        | (go_at_call 44; refine (counted1_any ja jc Z _ HG7.out.own.reads HZU.out hjc (by omega)).mono ?_; rintro r wr3 ⟨rfl, hb8⟩; have BB3 := hide (below_next BB2.out hb8); have HG8 := hide (HG7.out.below hb8); have hs8 := hb8.size; clear hb8; obtain ⟨⟨y0, y1, y2, y3⟩, yf⟩ := X1.out.below BB3.out; have yf0 := yf 0; have yf1 := yf 1; have yf2 := yf 2; have yf3 := yf 3; clear yf)))
    generalize (lines Z).length = k at *
    have hs6 : w1.heap.size ≤ wr1.heap.size := BB1.out.size
    have B3 := hide (below_next B1.out BB3.out)
    go_wp2_with fail
    refine bodyPost_ret (v := .agg #[.int .i64 0, .int .i64 (k : Int), .slice ja Z.length jc, .slice none 0 0]) (by simp [results, Try.results11, go_sem, y0, y1, y2, y3]) rfl ⟨ja, jc, none, 0, wr2.heap.size, rfl, ?_, GB.void _ _ _, by omega, by simp; omega, below_four B3.out (by omega) _ _ _ _⟩
    exact (HG8.out.kept (S := fun b => b = w.heap.size + 1) (Kept.four4 wr3 (w.heap.size + 1) _ _ _ _) (fun b h1 h2 e => by omega)).low (by omega)
  | some ad =>
    have KB := hide (fun (u : World) (hb : Below w1.heap.size w1 u) => T1.out.below hb)
    unfold Two at KB
    go_wp2_with fail
    obtain ⟨k0, k1⟩ := KB.out w1 (Below.refl _ _)
    clear t0 t1
    go_region_held3 (fun u => u.cell? ⟨w.heap.size, 0, none⟩ = some (.slice sa S.length sc) ∧ u.cell? ⟨w.heap.size, 1, none⟩ = some (.slice (some ad) L.length lc)) (first | exact KB.out _ BB3.out | exact KB.out _ BB2.out | exact KB.out _ (below_next BB1.out (below_alloc _ _)) | exact KB.out _ BB1.out | exact KB.out _ (Below.refl _ _).drew | go_keep)
      ((first
        | (go_at_call 46; refine (HWL.out _ _ (below_next B1.out (Below.refl _ _).drew) (HLT.out _ _ (HR.out.loose.below (below_next B1.out (Below.refl _ _).drew)))).mono ?_; rintro r wr1 ⟨wa, wc, rfl, hr6, hb6⟩; have BB1 := hide ((Below.refl w1.heap.size w1).drew.trans hb6); have R6 := hide hr6; clear hr6 hb6)
        | (go_at_call 45; refine (HJ.out _ wa wc _ (below_next B1.out (below_next BB1.out (below_alloc _ _))) (fun v hv => R6.out v (HLT.out _ _ (HR.out.loose.below hv))) (by simp) (by simp)).mono ?_; rintro r wr2 ⟨ja, jc, rfl, hg7, hb7⟩; have BB2 := hide (below_next BB1.out (below_next (below_alloc _ _) hb7)); have hs7 : wr1.heap.size + 1 ≤ wr2.heap.size := (by have := hb7.size; simpa using this); have HG7 := hide (hg7.low (B' := wr1.heap.size + 1) (by simp)); have hjc : Z.length ≤ jc := ownsRow_cap hg7.1; clear hg7 hb7)
        | (go_at_call 44; refine (counted1_any ja jc Z _ HG7.out.own.reads HZU.out hjc (by omega)).mono ?_; rintro r wr3 ⟨rfl, hb8⟩; have BB3 := hide (below_next BB2.out hb8); have HG8 := hide (HG7.out.below hb8); have hs8 := hb8.size; clear hb8; obtain ⟨⟨y0, y1, y2, y3⟩, yf⟩ := X1.out.below BB3.out; have yf0 := yf 0; have yf1 := yf 1; have yf2 := yf 2; have yf3 := yf 3; clear yf)))
    generalize (lines Z).length = k at *
    have hs6 : w1.heap.size ≤ wr1.heap.size := BB1.out.size
    have B3 := hide (below_next B1.out BB3.out)
    go_wp2_with fail
    refine bodyPost_ret (v := .agg #[.int .i64 0, .int .i64 (k : Int), .slice ja Z.length jc, .slice none 0 0]) (by simp [results, Try.results11, go_sem, y0, y1, y2, y3]) rfl ⟨ja, jc, none, 0, wr2.heap.size, rfl, ?_, GB.void _ _ _, by omega, by simp; omega, below_four B3.out (by omega) _ _ _ _⟩
    exact (HG8.out.kept (S := fun b => b = w.heap.size + 1) (Kept.four4 wr3 (w.heap.size + 1) _ _ _ _) (fun b h1 h2 e => by omega)).low (by omega)
end Go.Proofs.Ytpikgmbjgfdcfaa

namespace Go.Proofs.Ytpikgmbjgfdcfaa
open Go.RowKit
set_option linter.unusedVariables false

theorem l1InN (v a b : Int) (w : World) (h : ¬ (a ≤ v ∧ v ≤ b)) : Calls Try.prog 48 #[.int .i64 v, .int .i64 a, .int .i64 b] w fun e w' => e = .returned (.bool false) ∧ w' = w := by
  by_cases h1 : a ≤ v
  · have hd1 : decide (v ≥ a) = true := decide_eq_true h1
    have hd2 : decide (v ≤ b) = false := decide_eq_false fun e => h ⟨h1, e⟩
    clear h
    go_enter Try.func48, Try.ntmps48
    go_wp2_with fail
    go_ret
    exact ⟨rfl, rfl⟩
  · have hd1 : decide (v ≥ a) = false := decide_eq_false h1
    clear h
    go_enter Try.func48, Try.ntmps48
    go_wp2_with fail
    go_ret
    exact ⟨rfl, rfl⟩
theorem l14Of1_any (sa : Option Addr) (sc : Nat) (S : List Int) (w : World) (hs : Reads .u8 w sa S) (us : U8 S) (cs : S.length ≤ sc) (ns : S.length ≤ 1048576) :
    Calls Try.prog 50 #[.slice sa S.length sc, .slice none 0 0] w (ResG' 0 ((lines S).length : Nat) S [] w) :=
  l14Of_any sa none sc 0 S [] w ⟨hs, fun e => absurd rfl e, us, fun z hz => by simp at hz, cs, Nat.le_refl _, ns, by simp⟩
set_option maxRecDepth 100000 in
set_option maxHeartbeats 400000 in
theorem specSyncLog_bad (sa la : Option Addr) (sc lc : Nat) (S L : List Int) (w : World) (h : RdL' w sa sc S la lc L) (h0 : logF S L ≠ 0) :
    Calls Try.prog 39 #[.agg #[.slice sa S.length sc, .slice la L.length lc]] w (ResG' (logF S L) 0 [] [] w) := by
  have A0 := hide (below_alloc w (.cells #[.slice sa S.length sc, .slice la L.length lc] 25))
  have A1 := hide (below_alloc (w.alloc (.cells #[.slice sa S.length sc, .slice la L.length lc] 25)) (.cells #[.int .i64 0, .int .i64 0, .slice none 0 0, .slice none 0 0] 29))
  have B0 := hide (below_next A0.out A1.out)
  have T0 := hide ((Two.new w (.slice sa S.length sc) (.slice la L.length lc) 25).below A1.out)
  have X4 := hide (Box4r.new (w.alloc (.cells #[.slice sa S.length sc, .slice la L.length lc] 25)) (.int .i64 0) (.int .i64 0) (.slice none 0 0) (.slice none 0 0) 29)
  rw [show (w.alloc (.cells #[.slice sa S.length sc, .slice la L.length lc] 25)).heap.size = w.heap.size + 1 by simp] at X4
  have HZ2 := hide (show ((w.alloc (.cells #[.slice sa S.length sc, .slice la L.length lc] 25)).alloc (.cells #[.int .i64 0, .int .i64 0, .slice none 0 0, .slice none 0 0] 29)).heap.size = w.heap.size + 2 by simp)
  have HF := hide (l14Fault_any w.heap.size sa la sc lc S L _ T0.out (h.below B0.out))
  have hne : (logF S L == 0) = false := beq_eq_false_iff_ne.2 h0
  generalize logF S L = F at *
  have HR := hide h
  clear h h0
  go_enter Try.func39, Try.ntmps39
  obtain ⟨t0, t1⟩ := T0.out
  go_wp2_with fail
  refine HF.out.mono ?_
  rintro e w1 ⟨rfl, hb1⟩
  clear t0 t1 HF
  generalize (w.alloc (.cells #[.slice sa S.length sc, .slice la L.length lc] 25)).alloc (.cells #[.int .i64 0, .int .i64 0, .slice none 0 0, .slice none 0 0] 29) = W0 at *
  have hs1 : w.heap.size + 2 ≤ w1.heap.size := by have := hb1.size; have := HZ2.out; omega
  have B1 := hide (below_next B0.out hb1)
  have X1 := hide (X4.out.below hb1)
  have T1 := hide (T0.out.below hb1)
  clear hb1 X4 T0 A1 A0
  obtain ⟨⟨y0, y1, y2, y3⟩, yf⟩ := X1.out
  have yf0 := yf 0
  have yf1 := yf 1
  have yf2 := yf 2
  have yf3 := yf 3
  clear yf
  go_wp2_with fail
  refine bodyPost_ret (v := .agg #[.int .i64 F, .int .i64 0, .slice none 0 0, .slice none 0 0]) (by simp [results, Try.results39, go_sem, y0, y1, y2, y3]) rfl ⟨none, 0, none, 0, w.heap.size, rfl, GB.void _ _ _, GB.void _ _ _, Nat.le_refl _, by simp; omega, below_four B1.out (by omega) _ _ _ _⟩
set_option maxRecDepth 100000 in
set_option maxHeartbeats 1600000 in
theorem specSyncLog_ok (sa la : Option Addr) (sc lc : Nat) (S L : List Int) (w : World) (h : RdL' w sa sc S la lc L) (h0 : logF S L = 0) :
    Calls Try.prog 39 #[.agg #[.slice sa S.length sc, .slice la L.length lc]] w (ResG' 0 ((lines (S ++ L)).length : Nat) (S ++ L) [] w) := by
  obtain ⟨i1, ki, kz0, kz1, kz2⟩ := info_parts Try.infoU8
  have hsz := (logF_zero h0).1
  obtain ⟨Z, hZ⟩ : ∃ Z, S ++ L = Z := ⟨_, rfl⟩
  rw [hZ]
  have hzl : Z.length ≤ 2000 := by rw [← hZ, List.length_append]; omega
  have HZL := hide (show S.length + L.length = Z.length by rw [← hZ, List.length_append])
  have hm1 : 0 + S.length ≤ maxLen := by unfold maxLen; omega
  have hm2 : (0 + S.length) * 1 ≤ 140737488355328 := by omega
  have hm3 : S.length + L.length ≤ maxLen := by unfold maxLen; omega
  have hm4 : (S.length + L.length) * 1 ≤ 140737488355328 := by omega
  have A0 := hide (below_alloc w (.cells #[.slice sa S.length sc, .slice la L.length lc] 25))
  have A1 := hide (below_alloc (w.alloc (.cells #[.slice sa S.length sc, .slice la L.length lc] 25)) (.cells #[.int .i64 0, .int .i64 0, .slice none 0 0, .slice none 0 0] 29))
  have B0 := hide (below_next A0.out A1.out)
  have T0 := hide ((Two.new w (.slice sa S.length sc) (.slice la L.length lc) 25).below A1.out)
  have X4 := hide (Box4r.new (w.alloc (.cells #[.slice sa S.length sc, .slice la L.length lc] 25)) (.int .i64 0) (.int .i64 0) (.slice none 0 0) (.slice none 0 0) 29)
  rw [show (w.alloc (.cells #[.slice sa S.length sc, .slice la L.length lc] 25)).heap.size = w.heap.size + 1 by simp] at X4
  have HZ2 := hide (show ((w.alloc (.cells #[.slice sa S.length sc, .slice la L.length lc] 25)).alloc (.cells #[.int .i64 0, .int .i64 0, .slice none 0 0, .slice none 0 0] 29)).heap.size = w.heap.size + 2 by simp)
  have HF := hide (l14Fault_any w.heap.size sa la sc lc S L _ T0.out (h.below B0.out))
  rw [h0] at HF
  have HR := hide h
  have HZ := hide hZ
  have HZU := hide (show U8 Z from hZ ▸ u8_app h.su8 h.lu8)
  clear hZ
  clear h h0
  go_enter Try.func39, Try.ntmps39
  obtain ⟨t0, t1⟩ := T0.out
  go_wp2_with fail
  refine HF.out.mono ?_
  rintro e w1 ⟨rfl, hb1⟩
  clear t0 t1 HF
  generalize (w.alloc (.cells #[.slice sa S.length sc, .slice la L.length lc] 25)).alloc (.cells #[.int .i64 0, .int .i64 0, .slice none 0 0, .slice none 0 0] 29) = W0 at *
  have hs1 : w.heap.size + 2 ≤ w1.heap.size := by have := hb1.size; have := HZ2.out; omega
  have B1 := hide (below_next B0.out hb1)
  have X1 := hide (X4.out.below hb1)
  have T1 := hide (T0.out.below hb1)
  clear hb1 X4 T0 A1 A0
  have KB := hide (fun (u : World) (hb : Below w1.heap.size w1 u) => T1.out.below hb)
  unfold Two at KB
  go_wp2_with fail
  refine wp_region_held_drew (S := fun u => u.cell? ⟨w.heap.size, 0, none⟩ = some (.slice sa S.length sc) ∧ u.cell? ⟨w.heap.size, 1, none⟩ = some (.slice la L.length lc)) (by kernel_rfl) (KB.out _ (Below.refl _ _).drew) (fun hHeld => ?_)
  change wpAnyH _ _ _ _ _ _ (Array.replicate _ false) _ (World.drew _)
  have BR := hide ((Below.refl w1.heap.size w1).drew)
  have hsD : w1.heap.size ≤ w1.drew.heap.size := Nat.le_refl _
  generalize w1.drew = D at *
  refine tk' 1 10 (.pointer (some ⟨w.heap.size, 0, none⟩)) hHeld rfl (by kernel_rfl) (by kernel_rfl) (by kernel_rfl) (fun _ _ _ h => h) (Or.inl ⟨by rfl, ?_⟩) ?_
  · rintro w ⟨q0, q1⟩
    go_simp
  try simp only [Act.put, List.setIfInBounds_toArray, List.set_cons_zero, List.set_cons_succ]
  refine tk' 2 11 (.slice sa S.length sc) hHeld rfl (by kernel_rfl) (by kernel_rfl) (by kernel_rfl) (fun _ _ _ h => h) (Or.inl ⟨by rfl, ?_⟩) ?_
  · rintro w ⟨q0, q1⟩
    go_simp
  try simp only [Act.put, List.setIfInBounds_toArray, List.set_cons_zero, List.set_cons_succ]
  refine tk' 4 13 (.pointer (some ⟨w.heap.size, 1, none⟩)) hHeld rfl (by kernel_rfl) (by kernel_rfl) (by kernel_rfl) (fun _ _ _ h => h) (Or.inl ⟨by rfl, ?_⟩) ?_
  · rintro w ⟨q0, q1⟩
    go_simp
  try simp only [Act.put, List.setIfInBounds_toArray, List.set_cons_zero, List.set_cons_succ]
  refine tk' 5 14 (.slice la L.length lc) hHeld rfl (by kernel_rfl) (by kernel_rfl) (by kernel_rfl) (fun _ _ _ h => h) (Or.inl ⟨by rfl, ?_⟩) ?_
  · rintro w ⟨q0, q1⟩
    go_simp
  try simp only [Act.put, List.setIfInBounds_toArray, List.set_cons_zero, List.set_cons_succ]
  refine wpAnyH_ready (rs := [0]) (by kernel_rfl) (by simp) ?_
  refine AllReadyH.cons rfl (fun K hK => ?_) AllReadyH.nil
  have hb2 := below_next BR.out (below_alloc D (.cells #[] 5))
  have O0 := hide (made_zero D 5 D.heap.size D.heap.size (Nat.le_refl _) rfl)
  have hsE : D.heap.size < (D.alloc (.cells #[] 5)).heap.size := by simp
  have B2 := hide hb2
  clear hb2
  go_simp
  refine hK.out _ _ (KB.out _ B2.out) (fun hHeld => ?_)
  clear hK K BR
  try simp only [Act.put, List.setIfInBounds_toArray, List.set_cons_zero, List.set_cons_succ]
  have hgD : D.heap.size = D.heap.size := rfl
  obtain ⟨g, hg⟩ : ∃ g, g = D.heap.size := ⟨_, rfl⟩
  have hgw : w1.heap.size ≤ g := by omega
  rw [← hg] at O0 hsE
  generalize D.alloc (.cells #[] 5) = W2 at *
  try rw [← hg]
  clear hgD
  refine wpAnyH_ready (rs := [3]) (by kernel_rfl) (by simp) ?_
  refine AllReadyH.cons rfl (fun K hK => ?_) AllReadyH.nil
  refine step_app_rd rfl (.tmp 9) (.tmp 11) 22 rfl g 5 i1 Try.underlying22 ki kz0 kz1 kz2 _ 0 [] rfl O0.out sa _ sc S rfl rfl (HR.out.sure.below (below_next B1.out B2.out)) _ rfl hm1 hm2 (by omega) ?_
  intro av3 cv3 w3 ho3 hk3
  have O3 : Hid (w3.ownsRow g 5 1 (.slice av3 S.length cv3) S.length (S.map (Value.int .u8))) := hide (by simpa using ho3)
  have K3 := hide (show Kept (fun b => some g = some b) _ w3 from hk3)
  have B3 := hide (B2.out.trans (K3.out.below (B := w1.heap.size) (by omega) (fun k hk e => by simp at e; omega)))
  have hs3 := K3.out.size
  clear ho3 hk3
  rw [Nat.zero_add]
  refine hK.out _ _ (KB.out _ B3.out) (fun hHeld => ?_)
  clear hK K
  simp only [Act.put, List.setIfInBounds_toArray]
  refine wpAnyH_ready (rs := [6]) (by kernel_rfl) (by simp) ?_
  refine AllReadyH.cons rfl (fun K hK => ?_) AllReadyH.nil
  refine step_app_rd rfl (.tmp 12) (.tmp 14) 22 rfl g 5 i1 Try.underlying22 ki kz0 kz1 kz2 _ S.length S rfl O3.out la _ lc L rfl rfl (HR.out.loose.below (below_next B1.out B3.out)) _ rfl hm3 hm4 (by omega) ?_
  intro av4 cv4 w4 ho4 hk4
  have O4 : Hid (w4.ownsRow g 5 1 (.slice av4 Z.length cv4) Z.length (Z.map (Value.int .u8))) := hide (by rw [← HZL.out, ← HZ.out]; rw [List.map_append] at ho4 ⊢; exact ho4)
  have B4 := hide (B3.out.trans (hk4.below (B := w1.heap.size) (by omega) (fun k hk e => by have := (World.ownsRow.lt O3.out k e).1; omega)))
  have hs4 := hk4.size
  clear ho4 hk4
  rw [HZL.out]
  refine hK.out _ _ (KB.out _ B4.out) (fun hHeld => ?_)
  clear hK K
  simp only [Act.put]
  refine wpAnyH_ready (rs := [7]) (by kernel_rfl) (by simp) ?_
  refine AllReadyH.cons rfl (fun K hK => ?_) AllReadyH.nil
  go_simp
  refine (l14Of1_any av4 cv4 Z w4 (ownsRow_own O4.out rfl).reads HZU.out (ownsRow_cap O4.out) (by omega)).mono ?_
  rintro e w5 ⟨ja, jc, ka, kc, M, rfl, hg1, hg2, hM1, hM2, hb5⟩
  have B5 := hide (below_next B4.out hb5)
  have hs5 := hb5.size
  have G1 := hide hg1
  have G2 := hide hg2
  clear hg1 hg2 hb5
  go_wp2_with fail
  refine hK.out _ _ (KB.out _ B5.out) (fun hHeld => ?_)
  clear hK K
  try simp only [Act.put, List.setIfInBounds_toArray, List.set_cons_zero, List.set_cons_succ]
  refine wpAnyH_ready (rs := [8]) (by kernel_rfl) (by simp) ?_
  refine AllReadyH.cons rfl (fun K hK => ?_) AllReadyH.nil
  obtain ⟨⟨y0, y1, y2, y3⟩, yf⟩ := X1.out.below B5.out
  have yf0 := yf 0
  have yf1 := yf 1
  have yf2 := yf 2
  have yf3 := yf 3
  clear yf
  have B6 := hide (below_next B1.out B5.out)
  have hg1 := G1.out.kept (S := fun b => b = w.heap.size + 1) (Kept.four4 w5 (w.heap.size + 1) (.int .i64 0) (.int .i64 ((lines Z).length : Int)) (.slice ja Z.length jc) (.slice ka 0 kc)) (fun b h1 h2 e => by omega)
  have hg2 := G2.out.kept (S := fun b => b = w.heap.size + 1) (Kept.four4 w5 (w.heap.size + 1) (.int .i64 0) (.int .i64 ((lines Z).length : Int)) (.slice ja Z.length jc) (.slice ka 0 kc)) (fun b h1 h2 e => by omega)
  have G1' := hide hg1
  have G2' := hide hg2
  clear hg1 hg2 G1 G2
  go_simp
  refine hK.out _ _ ⟨((Kept.four4 w5 (w.heap.size + 1) _ _ _ _).cell (p := ⟨w.heap.size, 0, none⟩) (show w.heap.size < w5.heap.size by omega) (show ¬ w.heap.size = w.heap.size + 1 by omega)).trans (KB.out _ B5.out).1, ((Kept.four4 w5 (w.heap.size + 1) _ _ _ _).cell (p := ⟨w.heap.size, 1, none⟩) (show w.heap.size < w5.heap.size by omega) (show ¬ w.heap.size = w.heap.size + 1 by omega)).trans (KB.out _ B5.out).2⟩ (fun hHeld => ?_)
  clear hK K
  try simp only [Act.put, List.setIfInBounds_toArray, List.set_cons_zero, List.set_cons_succ]
  refine wpAnyH_done (by kernel_rfl) ?_ _
  go_wp2_with fail
  refine bodyPost_ret (v := .agg #[.int .i64 0, .int .i64 ((lines Z).length : Int), .slice ja Z.length jc, .slice ka 0 kc]) (by simp [results, Try.results39, go_sem, y0, y1, y2, y3]) rfl ⟨ja, jc, ka, kc, M, rfl, G1'.out.low (by omega), ?_, by omega, by simp; omega, below_four B6.out (by omega) _ _ _ _⟩
  exact ⟨G2'.out.1, fun x hx => by have := G2'.out.2 x hx; simp; omega⟩
set_option maxRecDepth 100000 in
set_option maxHeartbeats 400000 in
theorem specCrashLog_bad (sa la : Option Addr) (sc lc : Nat) (S L : List Int) (k : Int) (w : World) (h : RdL' w sa sc S la lc L) (h0 : logF S L ≠ 0) :
    Calls Try.prog 12 #[.agg #[.slice sa S.length sc, .slice la L.length lc], .int .i64 k] w (ResG' (logF S L) 0 [] [] w) := by
  have A0 := hide (below_alloc w (.cells #[.slice sa S.length sc, .slice la L.length lc] 25))
  have A1 := hide (below_alloc (w.alloc (.cells #[.slice sa S.length sc, .slice la L.length lc] 25)) (.cells #[.int .i64 0, .int .i64 0, .slice none 0 0, .slice none 0 0] 29))
  have B0 := hide (below_next A0.out A1.out)
  have T0 := hide ((Two.new w (.slice sa S.length sc) (.slice la L.length lc) 25).below A1.out)
  have X4 := hide (Box4r.new (w.alloc (.cells #[.slice sa S.length sc, .slice la L.length lc] 25)) (.int .i64 0) (.int .i64 0) (.slice none 0 0) (.slice none 0 0) 29)
  rw [show (w.alloc (.cells #[.slice sa S.length sc, .slice la L.length lc] 25)).heap.size = w.heap.size + 1 by simp] at X4
  have HZ2 := hide (show ((w.alloc (.cells #[.slice sa S.length sc, .slice la L.length lc] 25)).alloc (.cells #[.int .i64 0, .int .i64 0, .slice none 0 0, .slice none 0 0] 29)).heap.size = w.heap.size + 2 by simp)
  have HF := hide (l14Fault_any w.heap.size sa la sc lc S L _ T0.out (h.below B0.out))
  have hne : (logF S L == 0) = false := beq_eq_false_iff_ne.2 h0
  generalize logF S L = F at *
  have HR := hide h
  clear h h0
  go_enter Try.func12, Try.ntmps12
  obtain ⟨t0, t1⟩ := T0.out
  go_wp2_with fail
  refine HF.out.mono ?_
  rintro e w1 ⟨rfl, hb1⟩
  clear t0 t1 HF
  generalize (w.alloc (.cells #[.slice sa S.length sc, .slice la L.length lc] 25)).alloc (.cells #[.int .i64 0, .int .i64 0, .slice none 0 0, .slice none 0 0] 29) = W0 at *
  have hs1 : w.heap.size + 2 ≤ w1.heap.size := by have := hb1.size; have := HZ2.out; omega
  have B1 := hide (below_next B0.out hb1)
  have X1 := hide (X4.out.below hb1)
  have T1 := hide (T0.out.below hb1)
  clear hb1 X4 T0 A1 A0
  obtain ⟨⟨y0, y1, y2, y3⟩, yf⟩ := X1.out
  have yf0 := yf 0
  have yf1 := yf 1
  have yf2 := yf 2
  have yf3 := yf 3
  clear yf
  go_wp2_with fail
  refine bodyPost_ret (v := .agg #[.int .i64 F, .int .i64 0, .slice none 0 0, .slice none 0 0]) (by simp [results, Try.results12, go_sem, y0, y1, y2, y3]) rfl ⟨none, 0, none, 0, w.heap.size, rfl, GB.void _ _ _, GB.void _ _ _, Nat.le_refl _, by simp; omega, below_four B1.out (by omega) _ _ _ _⟩
set_option maxRecDepth 100000 in
set_option maxHeartbeats 400000 in
theorem specCrashLog_range (sa la : Option Addr) (sc lc : Nat) (S L : List Int) (k : Int) (w : World) (h : RdL' w sa sc S la lc L) (h0 : logF S L = 0) (hk : k < 0 ∨ (L.length : Int) < k) :
    Calls Try.prog 12 #[.agg #[.slice sa S.length sc, .slice la L.length lc], .int .i64 k] w (ResG' 3 0 [] [] w) := by
  have HI := hide (fun u => l1InN k 0 (L.length : Int) u (by omega))
  have A0 := hide (below_alloc w (.cells #[.slice sa S.length sc, .slice la L.length lc] 25))
  have A1 := hide (below_alloc (w.alloc (.cells #[.slice sa S.length sc, .slice la L.length lc] 25)) (.cells #[.int .i64 0, .int .i64 0, .slice none 0 0, .slice none 0 0] 29))
  have B0 := hide (below_next A0.out A1.out)
  have T0 := hide ((Two.new w (.slice sa S.length sc) (.slice la L.length lc) 25).below A1.out)
  have X4 := hide (Box4r.new (w.alloc (.cells #[.slice sa S.length sc, .slice la L.length lc] 25)) (.int .i64 0) (.int .i64 0) (.slice none 0 0) (.slice none 0 0) 29)
  rw [show (w.alloc (.cells #[.slice sa S.length sc, .slice la L.length lc] 25)).heap.size = w.heap.size + 1 by simp] at X4
  have HZ2 := hide (show ((w.alloc (.cells #[.slice sa S.length sc, .slice la L.length lc] 25)).alloc (.cells #[.int .i64 0, .int .i64 0, .slice none 0 0, .slice none 0 0] 29)).heap.size = w.heap.size + 2 by simp)
  have HF := hide (l14Fault_any w.heap.size sa la sc lc S L _ T0.out (h.below B0.out))
  rw [h0] at HF
  have HR := hide h
  clear h h0
  go_enter Try.func12, Try.ntmps12
  obtain ⟨t0, t1⟩ := T0.out
  go_wp2_with fail
  refine HF.out.mono ?_
  rintro e w1 ⟨rfl, hb1⟩
  clear t0 t1 HF
  generalize (w.alloc (.cells #[.slice sa S.length sc, .slice la L.length lc] 25)).alloc (.cells #[.int .i64 0, .int .i64 0, .slice none 0 0, .slice none 0 0] 29) = W0 at *
  have hs1 : w.heap.size + 2 ≤ w1.heap.size := by have := hb1.size; have := HZ2.out; omega
  have B1 := hide (below_next B0.out hb1)
  have X1 := hide (X4.out.below hb1)
  have T1 := hide (T0.out.below hb1)
  clear hb1 X4 T0 A1 A0
  obtain ⟨⟨y0, y1, y2, y3⟩, yf⟩ := X1.out
  have yf0 := yf 0
  have yf1 := yf 1
  have yf2 := yf 2
  have yf3 := yf 3
  clear yf
  obtain ⟨t0, t1⟩ := T1.out
  go_wp2_with fail
  refine (HI.out _).mono ?_
  rintro e w2 ⟨rfl, rfl⟩
  go_wp2_with fail
  refine bodyPost_ret (v := .agg #[.int .i64 3, .int .i64 0, .slice none 0 0, .slice none 0 0]) (by simp [results, Try.results12, go_sem, y0, y1, y2, y3]) rfl ⟨none, 0, none, 0, w.heap.size, rfl, GB.void _ _ _, GB.void _ _ _, Nat.le_refl _, by simp; omega, below_four B1.out (by omega) _ _ _ _⟩
end Go.Proofs.Ytpikgmbjgfdcfaa

namespace Go.Proofs.Ytpikgmbjgfdcfaa
open Go.RowKit
set_option linter.unusedVariables false

set_option maxRecDepth 100000 in
set_option maxHeartbeats 400000 in
theorem specAppendLog_bad (sa la : Option Addr) (sc lc : Nat) (S L : List Int) (s : ByteArray) (w : World) (h : RdL' w sa sc S la lc L) (h0 : logF S L ≠ 0) :
    Calls Try.prog 34 #[.agg #[.slice sa S.length sc, .slice la L.length lc], .string s] w (ResG' (logF S L) 0 [] [] w) := by
  have A0 := hide (below_alloc w (.cells #[.slice sa S.length sc, .slice la L.length lc] 25))
  have A1 := hide (below_alloc (w.alloc (.cells #[.slice sa S.length sc, .slice la L.length lc] 25)) (.cells #[.int .i64 0, .int .i64 0, .slice none 0 0, .slice none 0 0] 29))
  have B0 := hide (below_next A0.out A1.out)
  have T0 := hide ((Two.new w (.slice sa S.length sc) (.slice la L.length lc) 25).below A1.out)
  have X4 := hide (Box4r.new (w.alloc (.cells #[.slice sa S.length sc, .slice la L.length lc] 25)) (.int .i64 0) (.int .i64 0) (.slice none 0 0) (.slice none 0 0) 29)
  rw [show (w.alloc (.cells #[.slice sa S.length sc, .slice la L.length lc] 25)).heap.size = w.heap.size + 1 by simp] at X4
  have HZ2 := hide (show ((w.alloc (.cells #[.slice sa S.length sc, .slice la L.length lc] 25)).alloc (.cells #[.int .i64 0, .int .i64 0, .slice none 0 0, .slice none 0 0] 29)).heap.size = w.heap.size + 2 by simp)
  have HF := hide (l14Fault_any w.heap.size sa la sc lc S L _ T0.out (h.below B0.out))
  have hne : (logF S L == 0) = false := beq_eq_false_iff_ne.2 h0
  generalize logF S L = F at *
  have HR := hide h
  clear h h0
  go_enter Try.func34, Try.ntmps34
  obtain ⟨t0, t1⟩ := T0.out
  go_wp2_with fail
  refine HF.out.mono ?_
  rintro e w1 ⟨rfl, hb1⟩
  clear t0 t1 HF
  generalize (w.alloc (.cells #[.slice sa S.length sc, .slice la L.length lc] 25)).alloc (.cells #[.int .i64 0, .int .i64 0, .slice none 0 0, .slice none 0 0] 29) = W0 at *
  have hs1 : w.heap.size + 2 ≤ w1.heap.size := by have := hb1.size; have := HZ2.out; omega
  have B1 := hide (below_next B0.out hb1)
  have X1 := hide (X4.out.below hb1)
  have T1 := hide (T0.out.below hb1)
  clear hb1 X4 T0 A1 A0
  obtain ⟨⟨y0, y1, y2, y3⟩, yf⟩ := X1.out
  have yf0 := yf 0
  have yf1 := yf 1
  have yf2 := yf 2
  have yf3 := yf 3
  clear yf
  go_wp2_with fail
  refine bodyPost_ret (v := .agg #[.int .i64 F, .int .i64 0, .slice none 0 0, .slice none 0 0]) (by simp [results, Try.results34, go_sem, y0, y1, y2, y3]) rfl ⟨none, 0, none, 0, w.heap.size, rfl, GB.void _ _ _, GB.void _ _ _, Nat.le_refl _, by simp; omega, below_four B1.out (by omega) _ _ _ _⟩
set_option maxRecDepth 100000 in
set_option maxHeartbeats 400000 in
theorem specAppendLog_line (sa la : Option Addr) (sc lc : Nat) (S L : List Int) (s : ByteArray) (w : World) (h : RdL' w sa sc S la lc L) (h0 : logF S L = 0) (hs : s.size ≤ 1048576) (hl : lineF s.data.toList ≠ 0) :
    Calls Try.prog 34 #[.agg #[.slice sa S.length sc, .slice la L.length lc], .string s] w (ResG' (lineF s.data.toList) 0 [] [] w) := by
  have HP := hide (fun u : World => specLineFault_any s u (by omega))
  have hne : (lineF s.data.toList == 0) = false := beq_eq_false_iff_ne.2 hl
  generalize lineF s.data.toList = F at *
  clear hl
  have A0 := hide (below_alloc w (.cells #[.slice sa S.length sc, .slice la L.length lc] 25))
  have A1 := hide (below_alloc (w.alloc (.cells #[.slice sa S.length sc, .slice la L.length lc] 25)) (.cells #[.int .i64 0, .int .i64 0, .slice none 0 0, .slice none 0 0] 29))
  have B0 := hide (below_next A0.out A1.out)
  have T0 := hide ((Two.new w (.slice sa S.length sc) (.slice la L.length lc) 25).below A1.out)
  have X4 := hide (Box4r.new (w.alloc (.cells #[.slice sa S.length sc, .slice la L.length lc] 25)) (.int .i64 0) (.int .i64 0) (.slice none 0 0) (.slice none 0 0) 29)
  rw [show (w.alloc (.cells #[.slice sa S.length sc, .slice la L.length lc] 25)).heap.size = w.heap.size + 1 by simp] at X4
  have HZ2 := hide (show ((w.alloc (.cells #[.slice sa S.length sc, .slice la L.length lc] 25)).alloc (.cells #[.int .i64 0, .int .i64 0, .slice none 0 0, .slice none 0 0] 29)).heap.size = w.heap.size + 2 by simp)
  have HF := hide (l14Fault_any w.heap.size sa la sc lc S L _ T0.out (h.below B0.out))
  rw [h0] at HF
  have HR := hide h
  clear h h0
  go_enter Try.func34, Try.ntmps34
  obtain ⟨t0, t1⟩ := T0.out
  go_wp2_with fail
  refine HF.out.mono ?_
  rintro e w1 ⟨rfl, hb1⟩
  clear t0 t1 HF
  generalize (w.alloc (.cells #[.slice sa S.length sc, .slice la L.length lc] 25)).alloc (.cells #[.int .i64 0, .int .i64 0, .slice none 0 0, .slice none 0 0] 29) = W0 at *
  have hs1 : w.heap.size + 2 ≤ w1.heap.size := by have := hb1.size; have := HZ2.out; omega
  have B1 := hide (below_next B0.out hb1)
  have X1 := hide (X4.out.below hb1)
  have T1 := hide (T0.out.below hb1)
  clear hb1 X4 T0 A1 A0
  go_wp2_with fail
  refine (HP.out _).mono ?_
  rintro e w2 ⟨rfl, hw2⟩
  have hw2' := hw2.symm
  subst hw2'
  obtain ⟨⟨y0, y1, y2, y3⟩, yf⟩ := X1.out
  have yf0 := yf 0
  have yf1 := yf 1
  have yf2 := yf 2
  have yf3 := yf 3
  clear yf
  go_wp2_with fail
  refine bodyPost_ret (v := .agg #[.int .i64 F, .int .i64 0, .slice none 0 0, .slice none 0 0]) (by simp [results, Try.results34, go_sem, y0, y1, y2, y3]) rfl ⟨none, 0, none, 0, w.heap.size, rfl, GB.void _ _ _, GB.void _ _ _, Nat.le_refl _, by simp; omega, below_four B1.out (by omega) _ _ _ _⟩
set_option maxRecDepth 100000 in
set_option maxHeartbeats 1600000 in
theorem specAppendLog_ok (sa la : Option Addr) (sc lc : Nat) (S L : List Int) (s : ByteArray) (w : World) (h : RdL' w sa sc S la lc L) (h0 : logF S L = 0) (hl : lineF s.data.toList = 0) (N : List Int) (hN : L ++ packZ s.data.toList = N) :
    Calls Try.prog 34 #[.agg #[.slice sa S.length sc, .slice la L.length lc], .string s] w fun r w' => (2000 < S.length + N.length ∧ ResG' 2 0 [] [] w r w') ∨ (¬ 2000 < S.length + N.length ∧ ResG' 0 (((lines S).length + (lines N).length : Nat) : Int) S N w r w') := by
  obtain ⟨i1, ki, kz0, kz1, kz2⟩ := info_parts Try.infoU8
  have hsz := (logF_zero h0).1
  have hss := lineF_size hl
  have hpl := packZ_len s.data.toList
  rw [line_len] at hpl
  have hpu := packZ_u8 (l := s.data.toList) (by rw [line_len]; omega)
  have HLF := hide (fun u : World => specLineFault_any s u (by omega))
  rw [hl] at HLF
  have HPK := hide (fun u : World => l14Pack_any s u hss.1 hss.2)
  generalize packZ s.data.toList = pk at *
  have hnl : N.length ≤ 4096 := by rw [← hN, List.length_append]; omega
  have HNL := hide (show L.length + pk.length = N.length by rw [← hN, List.length_append])
  have HNN := hide hN
  have HNU := hide (show U8 N from hN ▸ u8_app h.lu8 hpu)
  have hm1 : 0 + L.length ≤ maxLen := by unfold maxLen; omega
  have hm2 : (0 + L.length) * 1 ≤ 140737488355328 := by omega
  have hm3 : L.length + pk.length ≤ maxLen := by unfold maxLen; omega
  have hm4 : (L.length + pk.length) * 1 ≤ 140737488355328 := by omega
  clear hpu hl hN hpl
  have A0 := hide (below_alloc w (.cells #[.slice sa S.length sc, .slice la L.length lc] 25))
  have A1 := hide (below_alloc (w.alloc (.cells #[.slice sa S.length sc, .slice la L.length lc] 25)) (.cells #[.int .i64 0, .int .i64 0, .slice none 0 0, .slice none 0 0] 29))
  have B0 := hide (below_next A0.out A1.out)
  have T0 := hide ((Two.new w (.slice sa S.length sc) (.slice la L.length lc) 25).below A1.out)
  have X4 := hide (Box4r.new (w.alloc (.cells #[.slice sa S.length sc, .slice la L.length lc] 25)) (.int .i64 0) (.int .i64 0) (.slice none 0 0) (.slice none 0 0) 29)
  rw [show (w.alloc (.cells #[.slice sa S.length sc, .slice la L.length lc] 25)).heap.size = w.heap.size + 1 by simp] at X4
  have HZ2 := hide (show ((w.alloc (.cells #[.slice sa S.length sc, .slice la L.length lc] 25)).alloc (.cells #[.int .i64 0, .int .i64 0, .slice none 0 0, .slice none 0 0] 29)).heap.size = w.heap.size + 2 by simp)
  have HF := hide (l14Fault_any w.heap.size sa la sc lc S L _ T0.out (h.below B0.out))
  rw [h0] at HF
  have HR := hide h
  clear h h0
  go_enter Try.func34, Try.ntmps34
  obtain ⟨t0, t1⟩ := T0.out
  go_wp2_with fail
  refine HF.out.mono ?_
  rintro e w1 ⟨rfl, hb1⟩
  clear t0 t1 HF
  generalize (w.alloc (.cells #[.slice sa S.length sc, .slice la L.length lc] 25)).alloc (.cells #[.int .i64 0, .int .i64 0, .slice none 0 0, .slice none 0 0] 29) = W0 at *
  have hs1 : w.heap.size + 2 ≤ w1.heap.size := by have := hb1.size; have := HZ2.out; omega
  have B1 := hide (below_next B0.out hb1)
  have X1 := hide (X4.out.below hb1)
  have T1 := hide (T0.out.below hb1)
  clear hb1 X4 T0 A1 A0
  go_wp2_with fail
  refine (HLF.out _).mono ?_
  rintro e w2 ⟨rfl, hw2⟩
  have hw2' := hw2.symm
  subst hw2'
  obtain ⟨t0, t1⟩ := T1.out
  have A2 := hide (below_alloc w1 (.cells #[] 5))
  obtain ⟨z0, z1⟩ := T1.out.below A2.out
  have hNL := HNL.out
  by_cases hbig : 2000 < S.length + N.length
  · have HBG := hide hbig
    have hb2 : (2000 : Int) < (S.length : Int) + ((L.length : Int) + (pk.length : Int)) := by omega
    clear hNL hbig
    go_wp2_with (first
      | (go_at_call 57; refine (HPK.out _).mono ?_; rintro e w4 ⟨pa, pc, rfl, hg4, hb4⟩; have O4 := hide (ownsRow_below O3.out hb4); have RP := hide hg4.own.reads; have B4 := hide (below_next B3.out hb4); have hs4 := hb4.size; clear hg4 hb4; have T4 := hide (T1.out.below B4.out); obtain ⟨t2, t3⟩ := T4.out)
      | (at_builtin; refine wpList_app_rd rfl (.tmp 22) (.tmp 24) 22 rfl w1.heap.size 5 i1 Try.underlying22 ki kz0 kz1 kz2 _ L.length L rfl O4.out pa _ pc pk rfl rfl RP.out _ rfl hm3 hm4 (by omega) ?_; intro av5 cv5 w5 ho5 hk5; have O5 := hide ho5; have K5 := hide hk5; clear ho5 hk5; have B5 := hide (B4.out.trans (K5.out.below (B := w1.heap.size) (by omega) (fun k hk e => by have := (World.ownsRow.lt O4.out k e).1; omega))); obtain ⟨t4, t5⟩ := T1.out.below B5.out; have X5 := hide (X1.out.below B5.out); obtain ⟨⟨y0, y1, y2, y3⟩, yf⟩ := X5.out; have yf0 := yf 0; have yf1 := yf 1; have yf2 := yf 2; have yf3 := yf 3; clear yf)
      | (at_builtin; refine wpList_app_rd rfl (.tmp 19) (.tmp 21) 22 rfl w1.heap.size 5 i1 Try.underlying22 ki kz0 kz1 kz2 _ 0 [] rfl (made_zero w1 _ _ _ (Nat.le_refl _) rfl) la _ lc L rfl rfl (HR.out.loose.below (below_next B1.out A2.out)) _ rfl hm1 hm2 (by simp) ?_; intro av3 cv3 w3 ho3 hk3; have O3 : Hid (w3.ownsRow w1.heap.size 5 1 (.slice av3 L.length cv3) L.length (L.map (Value.int .u8))) := hide (by simpa using ho3); have K3 := hide (show Kept (fun b => some w1.heap.size = some b) _ w3 from hk3); clear ho3 hk3; have B3 := hide (A2.out.trans (K3.out.below (B := w1.heap.size) (by simp) (fun k hk e => by simp at e; omega))); have hs3 : w1.heap.size + 1 ≤ w3.heap.size := (by have := K3.out.size; simpa using this); obtain ⟨t6, t7⟩ := T1.out.below B3.out)
      | fail)
    have BF := hide (below_next B1.out B5.out)
    have hs5 := B5.out.size
    refine bodyPost_ret (v := .agg #[.int .i64 2, .int .i64 0, .slice none 0 0, .slice none 0 0]) (by simp [results, Try.results34, go_sem, y0, y1, y2, y3]) rfl (Or.inl ⟨HBG.out, none, 0, none, 0, w.heap.size, rfl, GB.void _ _ _, GB.void _ _ _, Nat.le_refl _, by simp; omega, below_four BF.out (by omega) _ _ _ _⟩)
  · have HBG := hide hbig
    have hb2 : ¬ (2000 : Int) < (S.length : Int) + ((L.length : Int) + (pk.length : Int)) := by omega
    clear hNL hbig
    go_wp2_with (first
      | (go_at_call 57; refine (HPK.out _).mono ?_; rintro e w4 ⟨pa, pc, rfl, hg4, hb4⟩; have O4 := hide (ownsRow_below O3.out hb4); have RP := hide hg4.own.reads; have B4 := hide (below_next B3.out hb4); have hs4 := hb4.size; clear hg4 hb4; have T4 := hide (T1.out.below B4.out); obtain ⟨t2, t3⟩ := T4.out)
      | (at_builtin; refine wpList_app_rd rfl (.tmp 22) (.tmp 24) 22 rfl w1.heap.size 5 i1 Try.underlying22 ki kz0 kz1 kz2 _ L.length L rfl O4.out pa _ pc pk rfl rfl RP.out _ rfl hm3 hm4 (by omega) ?_; intro av5 cv5 w5 ho5 hk5; have O5 := hide ho5; have K5 := hide hk5; clear ho5 hk5; have B5 := hide (B4.out.trans (K5.out.below (B := w1.heap.size) (by omega) (fun k hk e => by have := (World.ownsRow.lt O4.out k e).1; omega))); obtain ⟨t4, t5⟩ := T1.out.below B5.out; have X5 := hide (X1.out.below B5.out))
      | (at_builtin; refine wpList_app_rd rfl (.tmp 19) (.tmp 21) 22 rfl w1.heap.size 5 i1 Try.underlying22 ki kz0 kz1 kz2 _ 0 [] rfl (made_zero w1 _ _ _ (Nat.le_refl _) rfl) la _ lc L rfl rfl (HR.out.loose.below (below_next B1.out A2.out)) _ rfl hm1 hm2 (by simp) ?_; intro av3 cv3 w3 ho3 hk3; have O3 : Hid (w3.ownsRow w1.heap.size 5 1 (.slice av3 L.length cv3) L.length (L.map (Value.int .u8))) := hide (by simpa using ho3); have K3 := hide (show Kept (fun b => some w1.heap.size = some b) _ w3 from hk3); clear ho3 hk3; have B3 := hide (A2.out.trans (K3.out.below (B := w1.heap.size) (by simp) (fun k hk e => by simp at e; omega))); have hs3 : w1.heap.size + 1 ≤ w3.heap.size := (by have := K3.out.size; simpa using this); obtain ⟨t6, t7⟩ := T1.out.below B3.out)
      | fail)
    have BF := hide (below_next B1.out B5.out)
    have hs5 := B5.out.size
    have O6 : Hid (w5.ownsRow w1.heap.size 5 1 (.slice av5 N.length cv5) N.length (N.map (Value.int .u8))) := hide (by rw [← HNL.out, ← HNN.out]; exact O5.out)
    have hcv := ownsRow_cap O6.out
    have HOF : Hid (Calls Try.prog 50 #[.slice sa S.length sc, .slice av5 (L.length + pk.length) cv5] w5 (ResG' 0 (((lines S).length + (lines N).length : Nat) : Int) S N w5)) := hide (by rw [HNL.out]; exact l14Of_any sa av5 sc cv5 S N w5 ⟨HR.out.sure.below BF.out, (ownsRow_own O6.out rfl).reads, HR.out.su8, HNU.out, HR.out.scap, hcv, by omega, by omega⟩)
    refine HOF.out.mono ?_
    rintro e w6 ⟨ja, jc, ka, kc, M, rfl, hg1, hg2, hM1, hM2, hb6⟩
    have hs6 := hb6.size
    have B6 := hide (below_next BF.out hb6)
    have G1 := hide hg1
    have G2 := hide hg2
    obtain ⟨⟨y0, y1, y2, y3⟩, yf⟩ := X5.out.below hb6
    have yf0 := yf 0
    have yf1 := yf 1
    have yf2 := yf 2
    have yf3 := yf 3
    clear yf
    clear hb6 hg1 hg2
    go_wp2_with fail
    refine bodyPost_ret (v := .agg #[.int .i64 0, .int .i64 (((lines S).length + (lines N).length : Nat) : Int), .slice ja S.length jc, .slice ka N.length kc]) (by simp [results, Try.results34, go_sem, y0, y1, y2, y3]) rfl (.inr ⟨HBG.out, ja, jc, ka, kc, M, rfl, ?_, ?_, by omega, by simp; omega, below_four B6.out (by omega) _ _ _ _⟩)
    · exact (G1.out.kept (S := fun b => b = w.heap.size + 1) (Kept.four4 w6 (w.heap.size + 1) _ _ _ _) (fun b h1 h2 e => by omega)).low (by omega)
    · have := G2.out.kept (S := fun b => b = w.heap.size + 1) (Kept.four4 w6 (w.heap.size + 1) (.int .i64 0) (.int .i64 (((lines S).length + (lines N).length : Nat) : Int)) (.slice ja S.length jc) (.slice ka N.length kc)) (fun b h1 h2 e => by omega)
      exact ⟨this.1, fun x hx => by have := this.2 x hx; simp; omega⟩
end Go.Proofs.Ytpikgmbjgfdcfaa

namespace Go.Proofs.Ytpikgmbjgfdcfaa
open Go.ChangeShapes Go.WideShapes Go.ChangeAt Go.RowKit
set_option linter.unusedVariables false

def GL (B T : Nat) (w : World) (sa : Option Addr) (sc n : Nat) (S : List Int) (la : Option Addr) (lc m : Nat) (L : List Int) : Prop :=
  ∃ M, B ≤ M ∧ M ≤ T ∧ GB B M w (.slice sa n sc) S ∧ GB M T w (.slice la m lc) L
theorem GL.kept {P : Nat → Prop} {B T : Nat} {w w' : World} {sa : Option Addr} {sc n : Nat} {S : List Int} {la : Option Addr} {lc m : Nat} {L : List Int} (h : GL B T w sa sc n S la lc m L) (hk : Kept P w w') (hn : ∀ b, B ≤ b → b < T → ¬ P b) : GL B T w' sa sc n S la lc m L := by
  obtain ⟨M, h1, h2, h3, h4⟩ := h
  exact ⟨M, h1, h2, h3.kept hk (fun b x y => hn b x (by omega)), h4.kept hk (fun b x y => hn b (by omega) y)⟩
theorem GL.below {B T : Nat} {w w' : World} {sa : Option Addr} {sc n : Nat} {S : List Int} {la : Option Addr} {lc m : Nat} {L : List Int} (h : GL B T w sa sc n S la lc m L) (hk : Below w.heap.size w w') : GL B T w' sa sc n S la lc m L :=
  h.kept (P := fun _ => False) (Kept.of_below hk) (fun _ _ _ => id)
theorem ResG'.gl {q k : Int} {S L : List Int} {w : World} {r : Ending} {w' : World} (h : ResG' q k S L w r w') :
    ∃ sa sc la lc, r = .returned (.agg #[.int .i64 q, .int .i64 k, .slice sa S.length sc, .slice la L.length lc]) ∧ GL w.heap.size w'.heap.size w' sa sc S.length S la lc L.length L ∧ Below w.heap.size w w' := by
  obtain ⟨sa, sc, la, lc, M, h1, h2, h3, h4, h5, h6⟩ := h
  exact ⟨sa, sc, la, lc, h1, ⟨M, h4, h5, h2, h3⟩, h6⟩
end Go.Proofs.Ytpikgmbjgfdcfaa

