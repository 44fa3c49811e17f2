/-
  Texts put together: LogAa.
-/
import Derived.Test.YtpikgmbjgfdcfaaKAppend5
namespace Go.Proofs.Ytpikgmbjgfdcfaa
open Go.RowKit
set_option linter.unusedVariables false

set_option maxRecDepth 100000 in
set_option maxHeartbeats 400000 in
theorem specAppendLog_bad (sa la : Option Addr) (sc lc : Nat) (S L : List Int) (s : ByteArray) (w : World) (h : RdL' w sa sc S la lc L) (h0 : logF S L ≠ 0) :
    Calls Try.prog 34 #[.agg #[.slice sa S.length sc, .slice la L.length lc], .string s] w (ResG' (logF S L) 0 [] [] w) := by
  have A0 := hide (below_alloc w (.cells #[.slice sa S.length sc, .slice la L.length lc] 25))
  have A1 := hide (below_alloc (w.alloc (.cells #[.slice sa S.length sc, .slice la L.length lc] 25)) (.cells #[.int .i64 0, .int .i64 0, .slice none 0 0, .slice none 0 0] 29))
  have B0 := hide (below_next A0.out A1.out)
  have T0 := hide ((Two.new w (.slice sa S.length sc) (.slice la L.length lc) 25).below A1.out)
  have X4 := hide (Box4r.new (w.alloc (.cells #[.slice sa S.length sc, .slice la L.length lc] 25)) (.int .i64 0) (.int .i64 0) (.slice none 0 0) (.slice none 0 0) 29)
  rw [show (w.alloc (.cells #[.slice sa S.length sc, .slice la L.length lc] 25)).heap.size = w.heap.size + 1 by simp] at X4
  have HZ2 := hide (show ((w.alloc (.cells #[.slice sa S.length sc, .slice la L.length lc] 25)).alloc (.cells #[.int .i64 0, .int .i64 0, .slice none 0 0, .slice none 0 0] 29)).heap.size = w.heap.size + 2 by simp)
  have HF := hide (l14Fault_any w.heap.size sa la sc lc S L _ T0.out (h.below B0.out))
  have hne : (logF S L == 0) = false := beq_eq_false_iff_ne.2 h0
  generalize logF S L = F at *
  have HR := hide h
  clear h h0
  go_enter Try.func34, Try.ntmps34
  obtain ⟨t0, t1⟩ := T0.out
  go_wp2_with fail
  refine HF.out.mono ?_
  rintro e w1 ⟨rfl, hb1⟩
  clear t0 t1 HF
  generalize (w.alloc (.cells #[.slice sa S.length sc, .slice la L.length lc] 25)).alloc (.cells #[.int .i64 0, .int .i64 0, .slice none 0 0, .slice none 0 0] 29) = W0 at *
  have hs1 : w.heap.size + 2 ≤ w1.heap.size := by have := hb1.size; have := HZ2.out; omega
  have B1 := hide (below_next B0.out hb1)
  have X1 := hide (X4.out.below hb1)
  have T1 := hide (T0.out.below hb1)
  clear hb1 X4 T0 A1 A0
  obtain ⟨⟨y0, y1, y2, y3⟩, yf⟩ := X1.out
  have yf0 := yf 0
  have yf1 := yf 1
  have yf2 := yf 2
  have yf3 := yf 3
  clear yf
  go_wp2_with fail
  refine bodyPost_ret (v := .agg #[.int .i64 F, .int .i64 0, .slice none 0 0, .slice none 0 0]) (by simp [results, Try.results34, go_sem, y0, y1, y2, y3]) rfl ⟨none, 0, none, 0, w.heap.size, rfl, GB.void _ _ _, GB.void _ _ _, Nat.le_refl _, by simp; omega, below_four B1.out (by omega) _ _ _ _⟩
set_option maxRecDepth 100000 in
set_option maxHeartbeats 400000 in
theorem specAppendLog_line (sa la : Option Addr) (sc lc : Nat) (S L : List Int) (s : ByteArray) (w : World) (h : RdL' w sa sc S la lc L) (h0 : logF S L = 0) (hs : s.size ≤ 1048576) (hl : lineF s.data.toList ≠ 0) :
    Calls Try.prog 34 #[.agg #[.slice sa S.length sc, .slice la L.length lc], .string s] w (ResG' (lineF s.data.toList) 0 [] [] w) := by
  have HP := hide (fun u : World => specLineFault_any s u (by omega))
  have hne : (lineF s.data.toList == 0) = false := beq_eq_false_iff_ne.2 hl
  generalize lineF s.data.toList = F at *
  clear hl
  have A0 := hide (below_alloc w (.cells #[.slice sa S.length sc, .slice la L.length lc] 25))
  have A1 := hide (below_alloc (w.alloc (.cells #[.slice sa S.length sc, .slice la L.length lc] 25)) (.cells #[.int .i64 0, .int .i64 0, .slice none 0 0, .slice none 0 0] 29))
  have B0 := hide (below_next A0.out A1.out)
  have T0 := hide ((Two.new w (.slice sa S.length sc) (.slice la L.length lc) 25).below A1.out)
  have X4 := hide (Box4r.new (w.alloc (.cells #[.slice sa S.length sc, .slice la L.length lc] 25)) (.int .i64 0) (.int .i64 0) (.slice none 0 0) (.slice none 0 0) 29)
  rw [show (w.alloc (.cells #[.slice sa S.length sc, .slice la L.length lc] 25)).heap.size = w.heap.size + 1 by simp] at X4
  have HZ2 := hide (show ((w.alloc (.cells #[.slice sa S.length sc, .slice la L.length lc] 25)).alloc (.cells #[.int .i64 0, .int .i64 0, .slice none 0 0, .slice none 0 0] 29)).heap.size = w.heap.size + 2 by simp)
  have HF := hide (l14Fault_any w.heap.size sa la sc lc S L _ T0.out (h.below B0.out))
  rw [h0] at HF
  have HR := hide h
  clear h h0
  go_enter Try.func34, Try.ntmps34
  obtain ⟨t0, t1⟩ := T0.out
  go_wp2_with fail
  refine HF.out.mono ?_
  rintro e w1 ⟨rfl, hb1⟩
  clear t0 t1 HF
  generalize (w.alloc (.cells #[.slice sa S.length sc, .slice la L.length lc] 25)).alloc (.cells #[.int .i64 0, .int .i64 0, .slice none 0 0, .slice none 0 0] 29) = W0 at *
  have hs1 : w.heap.size + 2 ≤ w1.heap.size := by have := hb1.size; have := HZ2.out; omega
  have B1 := hide (below_next B0.out hb1)
  have X1 := hide (X4.out.below hb1)
  have T1 := hide (T0.out.below hb1)
  clear hb1 X4 T0 A1 A0
  go_wp2_with fail
  refine (HP.out _).mono ?_
  rintro e w2 ⟨rfl, hw2⟩
  have hw2' := hw2.symm
  subst hw2'
  obtain ⟨⟨y0, y1, y2, y3⟩, yf⟩ := X1.out
  have yf0 := yf 0
  have yf1 := yf 1
  have yf2 := yf 2
  have yf3 := yf 3
  clear yf
  go_wp2_with fail
  refine bodyPost_ret (v := .agg #[.int .i64 F, .int .i64 0, .slice none 0 0, .slice none 0 0]) (by simp [results, Try.results34, go_sem, y0, y1, y2, y3]) rfl ⟨none, 0, none, 0, w.heap.size, rfl, GB.void _ _ _, GB.void _ _ _, Nat.le_refl _, by simp; omega, below_four B1.out (by omega) _ _ _ _⟩
set_option maxRecDepth 100000 in
set_option maxHeartbeats 1600000 in
theorem specAppendLog_ok (sa la : Option Addr) (sc lc : Nat) (S L : List Int) (s : ByteArray) (w : World) (h : RdL' w sa sc S la lc L) (h0 : logF S L = 0) (hl : lineF s.data.toList = 0) (N : List Int) (hN : L ++ packZ s.data.toList = N) :
    Calls Try.prog 34 #[.agg #[.slice sa S.length sc, .slice la L.length lc], .string s] w fun r w' => (2000 < S.length + N.length ∧ ResG' 2 0 [] [] w r w') ∨ (¬ 2000 < S.length + N.length ∧ ResG' 0 (((lines S).length + (lines N).length : Nat) : Int) S N w r w') := by
  obtain ⟨i1, ki, kz0, kz1, kz2⟩ := info_parts Try.infoU8
  have hsz := (logF_zero h0).1
  have hss := lineF_size hl
  have hpl := packZ_len s.data.toList
  rw [line_len] at hpl
  have hpu := packZ_u8 (l := s.data.toList) (by rw [line_len]; omega)
  have HLF := hide (fun u : World => specLineFault_any s u (by omega))
  rw [hl] at HLF
  have HPK := hide (fun u : World => l14Pack_any s u hss.1 hss.2)
  generalize packZ s.data.toList = pk at *
  have hnl : N.length ≤ 4096 := by rw [← hN, List.length_append]; omega
  have HNL := hide (show L.length + pk.length = N.length by rw [← hN, List.length_append])
  have HNN := hide hN
  have HNU := hide (show U8 N from hN ▸ u8_app h.lu8 hpu)
  have hm1 : 0 + L.length ≤ maxLen := by unfold maxLen; omega
  have hm2 : (0 + L.length) * 1 ≤ 140737488355328 := by omega
  have hm3 : L.length + pk.length ≤ maxLen := by unfold maxLen; omega
  have hm4 : (L.length + pk.length) * 1 ≤ 140737488355328 := by omega
  clear hpu hl hN hpl
  have A0 := hide (below_alloc w (.cells #[.slice sa S.length sc, .slice la L.length lc] 25))
  have A1 := hide (below_alloc (w.alloc (.cells #[.slice sa S.length sc, .slice la L.length lc] 25)) (.cells #[.int .i64 0, .int .i64 0, .slice none 0 0, .slice none 0 0] 29))
  have B0 := hide (below_next A0.out A1.out)
  have T0 := hide ((Two.new w (.slice sa S.length sc) (.slice la L.length lc) 25).below A1.out)
  have X4 := hide (Box4r.new (w.alloc (.cells #[.slice sa S.length sc, .slice la L.length lc] 25)) (.int .i64 0) (.int .i64 0) (.slice none 0 0) (.slice none 0 0) 29)
  rw [show (w.alloc (.cells #[.slice sa S.length sc, .slice la L.length lc] 25)).heap.size = w.heap.size + 1 by simp] at X4
  have HZ2 := hide (show ((w.alloc (.cells #[.slice sa S.length sc, .slice la L.length lc] 25)).alloc (.cells #[.int .i64 0, .int .i64 0, .slice none 0 0, .slice none 0 0] 29)).heap.size = w.heap.size + 2 by simp)
  have HF := hide (l14Fault_any w.heap.size sa la sc lc S L _ T0.out (h.below B0.out))
  rw [h0] at HF
  have HR := hide h
  clear h h0
  go_enter Try.func34, Try.ntmps34
  obtain ⟨t0, t1⟩ := T0.out
  go_wp2_with fail
  refine HF.out.mono ?_
  rintro e w1 ⟨rfl, hb1⟩
  clear t0 t1 HF
  generalize (w.alloc (.cells #[.slice sa S.length sc, .slice la L.length lc] 25)).alloc (.cells #[.int .i64 0, .int .i64 0, .slice none 0 0, .slice none 0 0] 29) = W0 at *
  have hs1 : w.heap.size + 2 ≤ w1.heap.size := by have := hb1.size; have := HZ2.out; omega
  have B1 := hide (below_next B0.out hb1)
  have X1 := hide (X4.out.below hb1)
  have T1 := hide (T0.out.below hb1)
  clear hb1 X4 T0 A1 A0
  go_wp2_with fail
  refine (HLF.out _).mono ?_
  rintro e w2 ⟨rfl, hw2⟩
  have hw2' := hw2.symm
  subst hw2'
  obtain ⟨t0, t1⟩ := T1.out
  have A2 := hide (below_alloc w1 (.cells #[] 5))
  obtain ⟨z0, z1⟩ := T1.out.below A2.out
  have hNL := HNL.out
  by_cases hbig : 2000 < S.length + N.length
  · have HBG := hide hbig
    have hb2 : (2000 : Int) < (S.length : Int) + ((L.length : Int) + (pk.length : Int)) := by omega
    clear hNL hbig
    go_wp2_with (first
      | (go_at_call 57; refine (HPK.out _).mono ?_; rintro e w4 ⟨pa, pc, rfl, hg4, hb4⟩; have O4 := hide (ownsRow_below O3.out hb4); have RP := hide hg4.own.reads; have B4 := hide (below_next B3.out hb4); have hs4 := hb4.size; clear hg4 hb4; have T4 := hide (T1.out.below B4.out); obtain ⟨t2, t3⟩ := T4.out)
      | (at_builtin; refine wpList_app_rd rfl (.tmp 22) (.tmp 24) 22 rfl w1.heap.size 5 i1 Try.underlying22 ki kz0 kz1 kz2 _ L.length L rfl O4.out pa _ pc pk rfl rfl RP.out _ rfl hm3 hm4 (by omega) ?_; intro av5 cv5 w5 ho5 hk5; have O5 := hide ho5; have K5 := hide hk5; clear ho5 hk5; have B5 := hide (B4.out.trans (K5.out.below (B := w1.heap.size) (by omega) (fun k hk e => by have := (World.ownsRow.lt O4.out k e).1; omega))); obtain ⟨t4, t5⟩ := T1.out.below B5.out; have X5 := hide (X1.out.below B5.out); obtain ⟨⟨y0, y1, y2, y3⟩, yf⟩ := X5.out; have yf0 := yf 0; have yf1 := yf 1; have yf2 := yf 2; have yf3 := yf 3; clear yf)
      | (at_builtin; refine wpList_app_rd rfl (.tmp 19) (.tmp 21) 22 rfl w1.heap.size 5 i1 Try.underlying22 ki kz0 kz1 kz2 _ 0 [] rfl (made_zero w1 _ _ _ (Nat.le_refl _) rfl) la _ lc L rfl rfl (HR.out.loose.below (below_next B1.out A2.out)) _ rfl hm1 hm2 (by simp) ?_; intro av3 cv3 w3 ho3 hk3; have O3 : Hid (w3.ownsRow w1.heap.size 5 1 (.slice av3 L.length cv3) L.length (L.map (Value.int .u8))) := hide (by simpa using ho3); have K3 := hide (show Kept (fun b => some w1.heap.size = some b) _ w3 from hk3); clear ho3 hk3; have B3 := hide (A2.out.trans (K3.out.below (B := w1.heap.size) (by simp) (fun k hk e => by simp at e; omega))); have hs3 : w1.heap.size + 1 ≤ w3.heap.size := (by have := K3.out.size; simpa using this); obtain ⟨t6, t7⟩ := T1.out.below B3.out)
      | fail)
    have BF := hide (below_next B1.out B5.out)
    have hs5 := B5.out.size
    refine bodyPost_ret (v := .agg #[.int .i64 2, .int .i64 0, .slice none 0 0, .slice none 0 0]) (by simp [results, Try.results34, go_sem, y0, y1, y2, y3]) rfl (Or.inl ⟨HBG.out, none, 0, none, 0, w.heap.size, rfl, GB.void _ _ _, GB.void _ _ _, Nat.le_refl _, by simp; omega, below_four BF.out (by omega) _ _ _ _⟩)
  · have HBG := hide hbig
    have hb2 : ¬ (2000 : Int) < (S.length : Int) + ((L.length : Int) + (pk.length : Int)) := by omega
    clear hNL hbig
    go_wp2_with (first
      | (go_at_call 57; refine (HPK.out _).mono ?_; rintro e w4 ⟨pa, pc, rfl, hg4, hb4⟩; have O4 := hide (ownsRow_below O3.out hb4); have RP := hide hg4.own.reads; have B4 := hide (below_next B3.out hb4); have hs4 := hb4.size; clear hg4 hb4; have T4 := hide (T1.out.below B4.out); obtain ⟨t2, t3⟩ := T4.out)
      | (at_builtin; refine wpList_app_rd rfl (.tmp 22) (.tmp 24) 22 rfl w1.heap.size 5 i1 Try.underlying22 ki kz0 kz1 kz2 _ L.length L rfl O4.out pa _ pc pk rfl rfl RP.out _ rfl hm3 hm4 (by omega) ?_; intro av5 cv5 w5 ho5 hk5; have O5 := hide ho5; have K5 := hide hk5; clear ho5 hk5; have B5 := hide (B4.out.trans (K5.out.below (B := w1.heap.size) (by omega) (fun k hk e => by have := (World.ownsRow.lt O4.out k e).1; omega))); obtain ⟨t4, t5⟩ := T1.out.below B5.out; have X5 := hide (X1.out.below B5.out))
      | (at_builtin; refine wpList_app_rd rfl (.tmp 19) (.tmp 21) 22 rfl w1.heap.size 5 i1 Try.underlying22 ki kz0 kz1 kz2 _ 0 [] rfl (made_zero w1 _ _ _ (Nat.le_refl _) rfl) la _ lc L rfl rfl (HR.out.loose.below (below_next B1.out A2.out)) _ rfl hm1 hm2 (by simp) ?_; intro av3 cv3 w3 ho3 hk3; have O3 : Hid (w3.ownsRow w1.heap.size 5 1 (.slice av3 L.length cv3) L.length (L.map (Value.int .u8))) := hide (by simpa using ho3); have K3 := hide (show Kept (fun b => some w1.heap.size = some b) _ w3 from hk3); clear ho3 hk3; have B3 := hide (A2.out.trans (K3.out.below (B := w1.heap.size) (by simp) (fun k hk e => by simp at e; omega))); have hs3 : w1.heap.size + 1 ≤ w3.heap.size := (by have := K3.out.size; simpa using this); obtain ⟨t6, t7⟩ := T1.out.below B3.out)
      | fail)
    have BF := hide (below_next B1.out B5.out)
    have hs5 := B5.out.size
    have O6 : Hid (w5.ownsRow w1.heap.size 5 1 (.slice av5 N.length cv5) N.length (N.map (Value.int .u8))) := hide (by rw [← HNL.out, ← HNN.out]; exact O5.out)
    have hcv := ownsRow_cap O6.out
    have HOF : Hid (Calls Try.prog 50 #[.slice sa S.length sc, .slice av5 (L.length + pk.length) cv5] w5 (ResG' 0 (((lines S).length + (lines N).length : Nat) : Int) S N w5)) := hide (by rw [HNL.out]; exact l14Of_any sa av5 sc cv5 S N w5 ⟨HR.out.sure.below BF.out, (ownsRow_own O6.out rfl).reads, HR.out.su8, HNU.out, HR.out.scap, hcv, by omega, by omega⟩)
    refine HOF.out.mono ?_
    rintro e w6 ⟨ja, jc, ka, kc, M, rfl, hg1, hg2, hM1, hM2, hb6⟩
    have hs6 := hb6.size
    have B6 := hide (below_next BF.out hb6)
    have G1 := hide hg1
    have G2 := hide hg2
    obtain ⟨⟨y0, y1, y2, y3⟩, yf⟩ := X5.out.below hb6
    have yf0 := yf 0
    have yf1 := yf 1
    have yf2 := yf 2
    have yf3 := yf 3
    clear yf
    clear hb6 hg1 hg2
    go_wp2_with fail
    refine bodyPost_ret (v := .agg #[.int .i64 0, .int .i64 (((lines S).length + (lines N).length : Nat) : Int), .slice ja S.length jc, .slice ka N.length kc]) (by simp [results, Try.results34, go_sem, y0, y1, y2, y3]) rfl (.inr ⟨HBG.out, ja, jc, ka, kc, M, rfl, ?_, ?_, by omega, by simp; omega, below_four B6.out (by omega) _ _ _ _⟩)
    · exact (G1.out.kept (S := fun b => b = w.heap.size + 1) (Kept.four4 w6 (w.heap.size + 1) _ _ _ _) (fun b h1 h2 e => by omega)).low (by omega)
    · have := G2.out.kept (S := fun b => b = w.heap.size + 1) (Kept.four4 w6 (w.heap.size + 1) (.int .i64 0) (.int .i64 (((lines S).length + (lines N).length : Nat) : Int)) (.slice ja S.length jc) (.slice ka N.length kc)) (fun b h1 h2 e => by omega)
      exact ⟨this.1, fun x hx => by have := this.2 x hx; simp; omega⟩
end Go.Proofs.Ytpikgmbjgfdcfaa

