/-
  Texts put together: LazV LazW LazX.
-/
import Derived.Test.YtejipahfodhmjaaGreatKLazy19
import Derived.Test.YtejipahfodhmjaaGreatKLazy18
import Derived.Deep.CutRange
import Derived.Laws.BytesArg
namespace Go.Proofs.YtejipahfodhmjaaGreat
open Go.RowKit Go.Maps
set_option linter.unusedVariables false
attribute [local go_sem ↓] Go.wp_at_zero Go.wp_at_succ

def Bx4f (w : World) (b : Nat) (u0 u1 u2 u3 : Value) : Prop := Four w b u0 u1 u2 u3 ∧ w.frozen? ⟨b, 0, none⟩ = false ∧ w.frozen? ⟨b, 1, none⟩ = false ∧ w.frozen? ⟨b, 2, none⟩ = false ∧ w.frozen? ⟨b, 3, none⟩ = false
theorem Bx4f.new (w : World) (u0 u1 u2 u3 : Value) (t : TypeId) : Bx4f (w.alloc (.cells #[u0, u1, u2, u3] t)) w.heap.size u0 u1 u2 u3 := ⟨Four.new w u0 u1 u2 u3 t, by simp, by simp, by simp, by simp⟩
theorem Bx4f.below {w w' : World} {b : Nat} {u0 u1 u2 u3 : Value} (h : Bx4f w b u0 u1 u2 u3) (hk : Below w.heap.size w w') : Bx4f w' b u0 u1 u2 u3 := by
  obtain ⟨h0, f0, f1, f2, f3⟩ := h
  have hb : b < w.heap.size := World.block_lt_of_cell? w ⟨b, 0, none⟩ h0.1
  exact ⟨h0.below hk, (hk.frozen (p := ⟨b, 0, none⟩) hb).trans f0, (hk.frozen (p := ⟨b, 1, none⟩) hb).trans f1, (hk.frozen (p := ⟨b, 2, none⟩) hb).trans f2, (hk.frozen (p := ⟨b, 3, none⟩) hb).trans f3⟩
set_option maxRecDepth 100000 in
set_option maxHeartbeats 3200000 in
theorem l11File_bad (a : Option Addr) (c m : Nat) (ls : List (List En)) (b : Option Addr) (d n : Nat) (D : Nat → Int) (P : Nat → List Int) (p : Bs) (w : World) (h : RdL w a ls) (hm : m = ls.length) (hl : ls.length ≤ 1048576) (hs : SmallL ls) (hg : ∀ es ∈ ls, layFault es = layFaultP es) (hC : RdC w b D P n) (hn : n ≤ 1048576) (hP : ∀ i, i < n → U8 (P i) ∧ (P i).length ≤ 1048576) (hpl : p.length ≤ 1048576) (q : Int) (hq : filC ls D P n p = q) (hz : q ≠ 0) :
    Calls Tryz.prog 35 #[.slice a m c, .slice b n d, .string (str p)] w fun e w' => e = .returned (.tuple #[.agg #[.string ⟨#[]⟩, .int .i64 0, .int .i64 0, .slice none 0 0], .int .i64 q]) ∧ Below w.heap.size w w' := by
  subst hm
  have B0 := hide (below_alloc w (.cells #[.string ⟨#[]⟩, .int .i64 0, .int .i64 0, .slice none 0 0] 40))
  have X0 := hide (Bx4f.new w (.string ⟨#[]⟩) (.int .i64 0) (.int .i64 0) (.slice none 0 0) 40)
  have HLF := hide (l11Asked_ok a c ls.length ls b d n D P _ (h.below B0.out) rfl hl hs hg (hC.below B0.out) hn hP)
  have HLO := hide (fun (u : World) (hu : Below w.heap.size w u) => specLookOver_any a c ls.length ls p u (h.below hu) rfl hl hs hg hpl)
  have HLF2 := hide (fun (E : En) (hc : plcC ls p = 0) (hE : lookL ls p = [E]) (u : World) (hu : Below w.heap.size w u) => specLookOver_full a c ls.length ls p u (h.below hu) rfl hl hs hg hpl E hc hE)
  have hne : (q != 0) = true := by simpa using hz
  have hcs := fil_ne hq hz
  have hKS : ∀ E, lookL ls p = [E] → plcC ls p = 0 → dirK E.kind = true → (E.kind != 1) = true := fun E _ _ hd => by
    have : E.kind = 2 ∨ E.kind = 4 := by simpa [dirK] using hd
    rcases this with h | h <;> rw [h] <;> rfl
  clear h hs hg hC hP hq
  rcases hcs with h1 | ⟨h1, h2⟩ | ⟨h1, h2, h3, e, h4, h5⟩
  · rw [h1] at HLF
    clear h1 HLO HLF2 hz hKS
    go_enter Tryz.func35, Tryz.ntmps35
    go_wp2_with fail
    refine HLF.out.mono ?_
    rintro r w1 ⟨rfl, hb1⟩
    have B9 := hide (below_next B0.out hb1)
    obtain ⟨⟨t0, t1, t2, t3⟩, f0, f1, f2, f3⟩ := X0.out.below hb1
    clear hb1
    go_wp2_with fail
    exact bodyPost_ret (v := .tuple #[.agg #[.string ⟨#[]⟩, .int .i64 0, .int .i64 0, .slice none 0 0], .int .i64 q]) (by simp [results, Tryz.results35, go_sem, t0, t1, t2, t3]) rfl ⟨rfl, (((B9.out.setCell (p := ⟨w.heap.size, 0, none⟩) (Nat.le_refl _) _).setCell (p := ⟨w.heap.size, 1, none⟩) (Nat.le_refl _) _).setCell (p := ⟨w.heap.size, 2, none⟩) (Nat.le_refl _) _).setCell (p := ⟨w.heap.size, 3, none⟩) (Nat.le_refl _) _⟩
  · rw [h1] at HLF
    rw [h2] at HLO
    clear h1 h2 hz HLF2 hKS
    go_enter Tryz.func35, Tryz.ntmps35
    go_wp2_with fail
    refine HLF.out.mono ?_
    rintro r w1 ⟨rfl, hb1⟩
    have B1 := hide (below_next B0.out hb1)
    have X1 := hide (X0.out.below hb1)
    clear hb1 HLF B0 X0
    go_wp2_with fail
    refine (HLO.out w1 B1.out).mono ?_
    rintro r w2 ⟨av, cv, rfl, -, hb2⟩
    generalize (lookL ls p).length = LN at *
    have A2 := hide (below_alloc w2 (.cells #[.int .i64 q, .slice av LN cv] 37))
    have B9 := hide (below_next (below_next B1.out hb2) A2.out)
    have Q2 := hide (Two.new w2 (.int .i64 q) (.slice av LN cv) 37)
    have X2 := hide ((X1.out.below hb2).below A2.out)
    have hlt : w.heap.size < w2.heap.size := Nat.lt_of_lt_of_le (World.block_lt_of_cell? w1 ⟨w.heap.size, 0, none⟩ X1.out.1.1) hb2.size
    have hne1 : ¬ w.heap.size = w2.heap.size := by omega
    have hne2 : ¬ w2.heap.size = w.heap.size := by omega
    clear hb2 A2 X1 B1
    obtain ⟨⟨t0, t1, t2, t3⟩, f0, f1, f2, f3⟩ := X2.out
    obtain ⟨q0, q1⟩ := Q2.out
    go_upto_region 6 with fail
    generalize w2.alloc (.cells #[.int .i64 q, .slice av LN cv] 37) = W2 at *
    go_region
    all_goals
      go_wp2_with fail
      exact bodyPost_ret (v := .tuple #[.agg #[.string ⟨#[]⟩, .int .i64 0, .int .i64 0, .slice none 0 0], .int .i64 q]) (by simp [results, Tryz.results35, go_sem, t0, t1, t2, t3]) rfl ⟨rfl, (((B9.out.drew.setCell (p := ⟨w.heap.size, 0, none⟩) (Nat.le_refl _) _).setCell (p := ⟨w.heap.size, 1, none⟩) (Nat.le_refl _) _).setCell (p := ⟨w.heap.size, 2, none⟩) (Nat.le_refl _) _).setCell (p := ⟨w.heap.size, 3, none⟩) (Nat.le_refl _) _⟩
  · rw [h1] at HLF
    have HLG := hide (HLF2.out e h2 h4)
    have hk1 := hKS e h4 h2 h5
    subst h3
    clear h1 h2 h4 h5 hz HLF2 HLO hKS
    go_enter Tryz.func35, Tryz.ntmps35
    go_wp2_with fail
    refine HLF.out.mono ?_
    rintro r w1 ⟨rfl, hb1⟩
    have B1 := hide (below_next B0.out hb1)
    have X1 := hide (X0.out.below hb1)
    clear hb1 HLF B0 X0
    go_wp2_with fail
    refine (HLG.out w1 B1.out).mono ?_
    rintro r w2 ⟨bb, x, xc, rfl, hF2, -, -, hb2⟩
    have A2 := hide (below_alloc w2 (.cells #[.int .i64 0, .slice (some ⟨bb, 0, none⟩) 1 1] 37))
    have B9 := hide (below_next (below_next B1.out hb2) A2.out)
    have Q2 := hide (Two.new w2 (.int .i64 0) (.slice (some ⟨bb, 0, none⟩) 1 1) 37)
    have X2 := hide ((X1.out.below hb2).below A2.out)
    have F3 := hide (hF2.below A2.out)
    clear hb2 A2 X1 B1 hF2
    obtain ⟨⟨t0, t1, t2, t3⟩, f0, f1, f2, f3⟩ := X2.out
    obtain ⟨q0, q1⟩ := Q2.out
    obtain ⟨z0, z1, z2, z3⟩ := F3.out
    go_wp2_with fail
    exact bodyPost_ret (v := .tuple #[.agg #[.string ⟨#[]⟩, .int .i64 0, .int .i64 0, .slice none 0 0], .int .i64 9]) (by simp [results, Tryz.results35, go_sem, t0, t1, t2, t3]) rfl ⟨rfl, (((B9.out.setCell (p := ⟨w.heap.size, 0, none⟩) (Nat.le_refl _) _).setCell (p := ⟨w.heap.size, 1, none⟩) (Nat.le_refl _) _).setCell (p := ⟨w.heap.size, 2, none⟩) (Nat.le_refl _) _).setCell (p := ⟨w.heap.size, 3, none⟩) (Nat.le_refl _) _⟩
set_option maxRecDepth 100000 in
set_option maxHeartbeats 3200000 in
theorem l11File_ok (a : Option Addr) (c m : Nat) (ls : List (List En)) (b : Option Addr) (d n : Nat) (D : Nat → Int) (P : Nat → List Int) (p : Bs) (w : World) (h : RdL w a ls) (hm : m = ls.length) (hl : ls.length ≤ 1048576) (hs : SmallL ls) (hg : ∀ es ∈ ls, layFault es = layFaultP es) (hC : RdC w b D P n) (hn : n ≤ 1048576) (hP : ∀ i, i < n → U8 (P i) ∧ (P i).length ≤ 1048576) (hpl : p.length ≤ 1048576) (e : En) (hE : FilE ls D P n p e) :
    Calls Tryz.prog 35 #[.slice a m c, .slice b n d, .string (str p)] w fun r w' => ∃ x xc, r = .returned (.tuple #[.agg #[.string (str e.path), .int .i64 e.kind, .int .i64 e.size, .slice x e.chunks.length xc], .int .i64 0]) ∧ Reads .i64 w' x e.chunks ∧ Below w.heap.size w w' := by
  subst hm
  have B0 := hide (below_alloc w (.cells #[.string ⟨#[]⟩, .int .i64 0, .int .i64 0, .slice none 0 0] 40))
  have X0 := hide (Bx4f.new w (.string ⟨#[]⟩) (.int .i64 0) (.int .i64 0) (.slice none 0 0) 40)
  have HLF := hide (l11Asked_ok a c ls.length ls b d n D P _ (h.below B0.out) rfl hl hs hg (hC.below B0.out) hn hP)
  have HLG := hide (fun (u : World) (hu : Below w.heap.size w u) => specLookOver_full a c ls.length ls p u (h.below hu) rfl hl hs hg hpl e hE.plc hE.look)
  rw [lac_zero.2 ⟨hE.lays, hE.flt⟩] at HLF
  have hk1 : (e.kind != 1) = false := by rw [hE.kind]; rfl
  clear h hs hg hC hP hE
  go_enter Tryz.func35, Tryz.ntmps35
  go_wp2_with fail
  refine HLF.out.mono ?_
  rintro r w1 ⟨rfl, hb1⟩
  have B1 := hide (below_next B0.out hb1)
  have X1 := hide (X0.out.below hb1)
  have hw1 : w.heap.size < w1.heap.size := World.block_lt_of_cell? w1 ⟨w.heap.size, 0, none⟩ X1.out.1.1
  clear hb1 HLF B0 X0
  go_wp2_with fail
  refine (HLG.out w1 B1.out).mono ?_
  rintro r w2 ⟨bb, x, xc, rfl, hF2, hr2, hlo2, hb2⟩
  have A2 := hide (below_alloc w2 (.cells #[.int .i64 0, .slice (some ⟨bb, 0, none⟩) 1 1] 37))
  have B9 := hide (below_next (below_next B1.out hb2) A2.out)
  have Q2 := hide (Two.new w2 (.int .i64 0) (.slice (some ⟨bb, 0, none⟩) 1 1) 37)
  have X2 := hide ((X1.out.below hb2).below A2.out)
  have F3 := hide (hF2.below A2.out)
  have R3 := hide (hr2.below A2.out)
  have LO := hide hlo2
  clear hb2 A2 X1 B1 hF2 hr2 hlo2
  obtain ⟨⟨t0, t1, t2, t3⟩, f0, f1, f2, f3⟩ := X2.out
  obtain ⟨q0, q1⟩ := Q2.out
  obtain ⟨z0, z1, z2, z3⟩ := F3.out
  go_wp2_with fail
  refine bodyPost_ret (v := .tuple #[.agg #[.string (str e.path), .int .i64 e.kind, .int .i64 e.size, .slice x e.chunks.length xc], .int .i64 0]) (by simp [results, Tryz.results35, go_sem, t0, t1, t2, t3]) rfl ⟨x, xc, rfl, ?_, (((B9.out.setCell (p := ⟨w.heap.size, 0, none⟩) (Nat.le_refl _) _).setCell (p := ⟨w.heap.size, 1, none⟩) (Nat.le_refl _) _).setCell (p := ⟨w.heap.size, 2, none⟩) (Nat.le_refl _) _).setCell (p := ⟨w.heap.size, 3, none⟩) (Nat.le_refl _) _⟩
  exact R3.out.kept (S := fun b => b = w.heap.size) (Kept.setCell (S := fun b => b = w.heap.size) (p := ⟨w.heap.size, 3, none⟩) (Kept.setCell (S := fun b => b = w.heap.size) (p := ⟨w.heap.size, 2, none⟩) (Kept.two _ _ _ _ _ _) (fun _ => rfl) _) (fun _ => rfl) _) (fun _ y hy e9 => by have := LO.out y hy; omega)
end Go.Proofs.YtejipahfodhmjaaGreat

namespace Go.Proofs.YtejipahfodhmjaaGreat
open Go.RowKit Go.Maps
set_option linter.unusedVariables false
attribute [local go_sem ↓] Go.wp_at_zero Go.wp_at_succ

set_option maxRecDepth 100000 in
set_option maxHeartbeats 1600000 in
theorem specReadOver_bad (a : Option Addr) (c m : Nat) (ls : List (List En)) (b : Option Addr) (d n : Nat) (D : Nat → Int) (P : Nat → List Int) (p : Bs) (w : World) (h : RdL w a ls) (hm : m = ls.length) (hl : ls.length ≤ 1048576) (hs : SmallL ls) (hg : ∀ es ∈ ls, layFault es = layFaultP es) (hC : RdC w b D P n) (hn : n ≤ 1048576) (hP : ∀ i, i < n → U8 (P i) ∧ (P i).length ≤ 1048576) (hpl : p.length ≤ 1048576) (q : Int) (hq : filC ls D P n p = q) (hz : q ≠ 0) :
    Calls Tryz.prog 10 #[.slice a m c, .slice b n d, .string (str p)] w (ResB q [] w) := by
  subst hm
  have X0 := hide (Box.new w (.int .i64 0) (.slice none 0 0) 29)
  have B0 := hide (below_alloc w (.cells #[.int .i64 0, .slice none 0 0] 29))
  have HF := hide (l11File_bad a c ls.length ls b d n D P p _ (h.below B0.out) rfl hl hs hg (hC.below B0.out) hn hP hpl q hq hz)
  have hne : (q != 0) = true := by simpa using hz
  clear h hs hg hC hP hq hz
  go_enter Tryz.func10, Tryz.ntmps10
  go_wp2_with fail
  refine HF.out.mono ?_
  rintro r w1 ⟨rfl, hb1⟩
  have A1 := hide (below_alloc w1 (.cells #[.string ⟨#[]⟩, .int .i64 0, .int .i64 0, .slice none 0 0] 40))
  have B1 := hide (below_next (below_next B0.out hb1) A1.out)
  have X1 := hide ((X0.out.below hb1).below A1.out)
  clear hb1 X0 B0 A1
  obtain ⟨⟨t0, t1⟩, t2, t3⟩ := X1.out
  go_wp2_with fail
  exact bodyPost_ret (v := .agg #[.int .i64 q, .slice none 0 0]) (by simp [results, Tryz.results10, go_sem, t0, t1]) rfl (ResB.no ((B1.out.setCell (Nat.le_refl _) _).setCell (Nat.le_refl _) _))
set_option maxRecDepth 100000 in
set_option maxHeartbeats 3200000 in
theorem specReadOver_ok (a : Option Addr) (c m : Nat) (ls : List (List En)) (b : Option Addr) (d n : Nat) (D : Nat → Int) (P : Nat → List Int) (p : Bs) (w : World) (h : RdL w a ls) (hm : m = ls.length) (hl : ls.length ≤ 1048576) (hs : SmallL ls) (hg : ∀ es ∈ ls, layFault es = layFaultP es) (hC : RdC w b D P n) (hn : n ≤ 1048576) (hP : ∀ i, i < n → U8 (P i) ∧ (P i).length ≤ 1048576) (hpl : p.length ≤ 1048576) (e : En) (hE : FilE ls D P n p e) :
    Calls Tryz.prog 10 #[.slice a m c, .slice b n d, .string (str p)] w (ResB (rdQ D P n e).1 (rdQ D P n e).2 w) := by
  subst hm
  have X0 := hide (Box.new w (.int .i64 0) (.slice none 0 0) 29)
  have B0 := hide (below_alloc w (.cells #[.int .i64 0, .slice none 0 0] 29))
  have HF := hide (l11File_ok a c ls.length ls b d n D P p _ (h.below B0.out) rfl hl hs hg (hC.below B0.out) hn hP hpl e hE)
  have hc3 := entFault_chunks hE.ent
  have hbt := both_right hE.flt hE.ent
  obtain ⟨m, js, hm, hj, hno, hjd⟩ := join_cases D P n e.chunks
  have HQ := hide (show rdQ D P n e = if m = e.chunks.length then (if ((joinTo js m).length : Int) = e.size then (0, joinTo js m) else (6, [])) else (8, []) from by
    unfold rdQ
    rw [hjd]
    by_cases h9 : m = e.chunks.length
    · rw [if_pos h9, if_pos h9]
    · rw [if_neg h9, if_neg h9])
  have HJO := hide (fun (u : World) (hu : Below w.heap.size w u) (x : Option Addr) (xc : Nat) (hr : Reads .i64 u x e.chunks) => specJoin_ok b d n D P x xc e.chunks u (hC.below hu) hn hP hr (by omega) hbt m hm js hj hno)
  generalize rdQ D P n e = Q at *
  clear h hs hg hC hP hE hj hno hjd hbt
  go_enter Tryz.func10, Tryz.ntmps10
  go_wp2_with fail
  refine HF.out.mono ?_
  rintro r w1 ⟨x, xc, rfl, hr1, hb1⟩
  have A1 := hide (below_alloc w1 (.cells #[.string (str e.path), .int .i64 e.kind, .int .i64 e.size, .slice x e.chunks.length xc] 40))
  have F1 := hide (Four.new w1 (.string (str e.path)) (.int .i64 e.kind) (.int .i64 e.size) (.slice x e.chunks.length xc) 40)
  have B1 := hide (below_next (below_next B0.out hb1) A1.out)
  have X1 := hide ((X0.out.below hb1).below A1.out)
  have R1 := hide (hr1.below A1.out)
  have hwl : w.heap.size < w1.heap.size := Nat.lt_of_lt_of_le (X0.out.1.lt) hb1.size
  clear hb1 X0 B0 A1 hr1 HF
  obtain ⟨t0, t1, t2, t3⟩ := F1.out
  have HJN := hide (HJO.out _ B1.out x xc R1.out)
  by_cases hme : m = e.chunks.length
  · rw [if_pos hme] at HQ
    rw [if_pos hme, if_pos hme] at HJN
    generalize joinTo js m = bs at *
    clear hme HJO
    go_wp2_with fail
    clear t0 t1 t2 t3
    generalize w1.alloc (.cells #[.string (str e.path), .int .i64 e.kind, .int .i64 e.size, .slice x e.chunks.length xc] 40) = W1 at *
    obtain ⟨eb, heb⟩ : ∃ eb, eb = w1.heap.size := ⟨_, rfl⟩
    rw [← heb] at F1 ⊢
    have hW1 : w.heap.size < W1.heap.size := X1.out.1.lt
    clear heb
    refine HJN.out.mono ?_
    rintro r w2 ⟨ga, gc, rfl, hg2, hb2⟩
    have A2 := hide (below_alloc w2 (.cells #[.int .i64 0, .slice ga bs.length gc] 29))
    have Y2 := hide (Two.new w2 (.int .i64 0) (.slice ga bs.length gc) 29)
    have B2 := hide (below_next (below_next B1.out hb2) A2.out)
    have X2 := hide ((X1.out.below hb2).below A2.out)
    have F2 := hide ((F1.out.below hb2).below A2.out)
    have O2 := hide (ownsRow_below hg2.1 A2.out)
    have hw2 : w.heap.size < w2.heap.size := by have := hb2.size; omega
    have hn1 : ¬ w.heap.size = w2.heap.size := by omega
    have hn2 : ¬ w2.heap.size = w.heap.size := by omega
    clear hg2 hb2 A2 X1 F1 B1 HJN
    obtain ⟨t0, t1, t2, t3⟩ := F2.out
    obtain ⟨⟨s0, s1⟩, s2, s3⟩ := X2.out
    obtain ⟨y0, y1⟩ := Y2.out
    go_upto_region 5 with fail
    generalize w2.alloc (.cells #[.int .i64 0, .slice ga bs.length gc] 29) = W2 at *
    obtain ⟨yb, hyb⟩ : ∃ yb, yb = w2.heap.size := ⟨_, rfl⟩
    rw [← hyb] at y0 y1 hn1 hn2 ⊢
    clear hyb
    by_cases hsz : (bs.length : Int) = e.size
    · rw [if_pos hsz] at HQ
      have hsb : ((bs.length : Int) != e.size) = false := by simpa using hsz
      clear hsz
      go_wp2_with fail
      rw [HQ.out]
      exact bodyPost_ret (v := .agg #[.int .i64 0, .slice ga bs.length gc]) (by simp [results, Tryz.results10, go_sem, s0, s1]) rfl (ResB.of hW1 (Nat.le_refl _) rfl O2.out B2.out)
    · rw [if_neg hsz] at HQ
      have hsb : ((bs.length : Int) != e.size) = true := by simpa using hsz
      clear hsz
      go_wp2_with fail
      rw [HQ.out]
      exact bodyPost_ret (v := .agg #[.int .i64 6, .slice none 0 0]) (by simp [results, Tryz.results10, go_sem, s0, s1]) rfl (ResB.no ((B2.out.setCell (Nat.le_refl _) _).setCell (Nat.le_refl _) _))
  · rw [if_neg hme] at HQ
    rw [if_neg hme, if_neg hme] at HJN
    clear hme HJO
    go_wp2_with fail
    clear t0 t1 t2 t3
    generalize w1.alloc (.cells #[.string (str e.path), .int .i64 e.kind, .int .i64 e.size, .slice x e.chunks.length xc] 40) = W1 at *
    obtain ⟨eb, heb⟩ : ∃ eb, eb = w1.heap.size := ⟨_, rfl⟩
    rw [← heb] at F1 ⊢
    have hW1 : w.heap.size < W1.heap.size := X1.out.1.lt
    clear heb
    refine HJN.out.mono ?_
    rintro r w2 ⟨ga, gc, rfl, hg2, hb2⟩
    have A2 := hide (below_alloc w2 (.cells #[.int .i64 8, .slice ga 0 gc] 29))
    have Y2 := hide (Two.new w2 (.int .i64 8) (.slice ga 0 gc) 29)
    have B2 := hide (below_next (below_next B1.out hb2) A2.out)
    have X2 := hide ((X1.out.below hb2).below A2.out)
    have F2 := hide ((F1.out.below hb2).below A2.out)
    have O2 := hide (ownsRow_below hg2.1 A2.out)
    have hw2 : w.heap.size < w2.heap.size := by have := hb2.size; omega
    have hn1 : ¬ w.heap.size = w2.heap.size := by omega
    have hn2 : ¬ w2.heap.size = w.heap.size := by omega
    clear hg2 hb2 A2 X1 F1 B1 HJN
    obtain ⟨t0, t1, t2, t3⟩ := F2.out
    obtain ⟨⟨s0, s1⟩, s2, s3⟩ := X2.out
    obtain ⟨y0, y1⟩ := Y2.out
    go_upto_region 5 with fail
    generalize w2.alloc (.cells #[.int .i64 8, .slice ga 0 gc] 29) = W2 at *
    obtain ⟨yb, hyb⟩ : ∃ yb, yb = w2.heap.size := ⟨_, rfl⟩
    rw [← hyb] at y0 y1 hn1 hn2 ⊢
    clear hyb
    go_wp2_with fail
    rw [HQ.out]
    exact bodyPost_ret (v := .agg #[.int .i64 8, .slice ga 0 gc]) (by simp [results, Tryz.results10, go_sem, s0, s1]) rfl (ResB.of (zs := []) hW1 (Nat.le_refl _) rfl O2.out B2.out)
set_option maxRecDepth 100000 in
set_option maxHeartbeats 1600000 in
theorem specAwayOver_bad (a : Option Addr) (c m : Nat) (ls : List (List En)) (b : Option Addr) (d n : Nat) (D : Nat → Int) (P : Nat → List Int) (p : Bs) (w : World) (h : RdL w a ls) (hm : m = ls.length) (hl : ls.length ≤ 1048576) (hs : SmallL ls) (hg : ∀ es ∈ ls, layFault es = layFaultP es) (hC : RdC w b D P n) (hn : n ≤ 1048576) (hP : ∀ i, i < n → U8 (P i) ∧ (P i).length ≤ 1048576) (hpl : p.length ≤ 1048576) (q : Int) (hq : filC ls D P n p = q) (hz : q ≠ 0) :
    Calls Tryz.prog 12 #[.slice a m c, .slice b n d, .string (str p)] w (ResI q [] w) := by
  subst hm
  have X0 := hide (Box.new w (.int .i64 0) (.slice none 0 0) 33)
  have B0 := hide (below_alloc w (.cells #[.int .i64 0, .slice none 0 0] 33))
  have HF := hide (l11File_bad a c ls.length ls b d n D P p _ (h.below B0.out) rfl hl hs hg (hC.below B0.out) hn hP hpl q hq hz)
  have hne : (q != 0) = true := by simpa using hz
  clear h hs hg hC hP hq hz
  go_enter Tryz.func12, Tryz.ntmps12
  go_wp2_with fail
  refine HF.out.mono ?_
  rintro r w1 ⟨rfl, hb1⟩
  have A1 := hide (below_alloc w1 (.cells #[.string ⟨#[]⟩, .int .i64 0, .int .i64 0, .slice none 0 0] 40))
  have B1 := hide (below_next (below_next B0.out hb1) A1.out)
  have X1 := hide ((X0.out.below hb1).below A1.out)
  clear hb1 X0 B0 A1
  obtain ⟨⟨t0, t1⟩, t2, t3⟩ := X1.out
  go_wp2_with fail
  exact bodyPost_ret (v := .agg #[.int .i64 q, .slice none 0 0]) (by simp [results, Tryz.results12, go_sem, t0, t1]) rfl (ResI.no ((B1.out.setCell (Nat.le_refl _) _).setCell (Nat.le_refl _) _))
set_option maxRecDepth 100000 in
set_option maxHeartbeats 3200000 in
theorem specAwayOver_ok (a : Option Addr) (c m : Nat) (ls : List (List En)) (b : Option Addr) (d n : Nat) (D : Nat → Int) (P : Nat → List Int) (p : Bs) (w : World) (h : RdL w a ls) (hm : m = ls.length) (hl : ls.length ≤ 1048576) (hs : SmallL ls) (hg : ∀ es ∈ ls, layFault es = layFaultP es) (hC : RdC w b D P n) (hn : n ≤ 1048576) (hP : ∀ i, i < n → U8 (P i) ∧ (P i).length ≤ 1048576) (hpl : p.length ≤ 1048576) (e : En) (hE : FilE ls D P n p e) :
    Calls Tryz.prog 12 #[.slice a m c, .slice b n d, .string (str p)] w (ResI 0 (missE D n e) w) := by
  subst hm
  unfold missE
  obtain ⟨zs, hzs⟩ : ∃ zs, zs = miss D n e.chunks e.chunks.length := ⟨_, rfl⟩
  rw [← hzs]
  have HZ := hide hzs
  clear hzs
  have X0 := hide (Box.new w (.int .i64 0) (.slice none 0 0) 33)
  have B0 := hide (below_alloc w (.cells #[.int .i64 0, .slice none 0 0] 33))
  have HF := hide (l11File_ok a c ls.length ls b d n D P p _ (h.below B0.out) rfl hl hs hg (hC.below B0.out) hn hP hpl e hE)
  have hc3 := entFault_chunks hE.ent
  have HC := hide hC
  clear h hs hg hC hP hE
  go_enter Tryz.func12, Tryz.ntmps12
  go_wp2_with fail
  refine HF.out.mono ?_
  rintro r w1 ⟨x, xc, rfl, hr1, hb1⟩
  have A1 := hide (below_alloc w1 (.cells #[.string (str e.path), .int .i64 e.kind, .int .i64 e.size, .slice x e.chunks.length xc] 40))
  have F1 := hide (Four.new w1 (.string (str e.path)) (.int .i64 e.kind) (.int .i64 e.size) (.slice x e.chunks.length xc) 40)
  have B1 := hide (below_next (below_next B0.out hb1) A1.out)
  have X1 := hide ((X0.out.below hb1).below A1.out)
  have R1 := hide (hr1.below A1.out)
  have hwl : w.heap.size < w1.heap.size := Nat.lt_of_lt_of_le (X0.out.1.lt) hb1.size
  clear hb1 X0 B0 A1 hr1 HF
  obtain ⟨t0, t1, t2, t3⟩ := F1.out
  have HMI := hide (l2Missing_any b d n D P x xc e.chunks _ (HC.out.below B1.out) hn R1.out hc3)
  rw [← HZ.out] at HMI
  go_wp2_with fail
  refine HMI.out.mono ?_
  rintro r w5 ⟨v5, rfl, hg5, hb5⟩
  obtain ⟨ga, gc, rfl⟩ := ownsRow_shape hg5
  have B5 := hide (below_next B1.out hb5)
  obtain ⟨⟨s0, s1⟩, s2, s3⟩ := X1.out.below hb5
  have G5 := hide hg5
  have hw5 : w.heap.size < (w1.alloc (.cells #[.string (str e.path), .int .i64 e.kind, .int .i64 e.size, .slice x e.chunks.length xc] 40)).heap.size := by simp; omega
  clear hg5 hb5
  go_wp2_with fail
  exact bodyPost_ret (v := .agg #[.int .i64 0, .slice ga zs.length gc]) (by simp [results, Tryz.results12, go_sem, s0, s1]) rfl (ResI.of hw5 (Nat.le_refl _) rfl G5.out B5.out)
end Go.Proofs.YtejipahfodhmjaaGreat

namespace Go.Proofs.YtejipahfodhmjaaGreat
open Go.RowKit Go.Maps
set_option linter.unusedVariables false

theorem strJ (xs ys : List Int) : strOfNums xs ++ strOfNums ys = strOfNums (xs ++ ys) := by
  apply ByteArray.ext
  simp [strOfNums]
theorem convO {w : World} {base : Nat} {a : Option Addr} {c : Nat} {ds : List Int} (h : w.ownsRow base 5 1 (.slice a ds.length c) ds.length (ds.map (Value.int .u8))) :
    Sem.run Tryz.prog (convert 22 9 (.slice a ds.length c)) w = .ok (.string (strOfNums ds)) w := by
  rcases h.2 with ⟨h', h0⟩ | ⟨g, cap, cur, h', hb, hh, hnc, hcm, hcs, htake⟩
  · simp only [Value.slice.injEq] at h'
    obtain ⟨rfl, _, rfl⟩ := h'
    have e : ds = [] := List.eq_nil_of_length_eq_zero h0
    subst e
    exact run_convert_bytes_nil (P := Tryz.prog) w 22 5 Tryz.underlying22 Tryz.underlying5 0 0 9 Tryz.underlying9
  · simp only [Value.slice.injEq, true_and] at h'
    obtain ⟨rfl, rfl⟩ := h'
    exact run_convert_bytes_arg (P := Tryz.prog) w 22 5 Tryz.underlying22 Tryz.underlying5 g 0 ds.length c ds rfl (fun i hi => by rw [Nat.zero_add, h.cellAt i (by omega)]; simp [List.getD_eq_getElem?_getD, hi]) 9 Tryz.underlying9
theorem addS (S1 S2 : ByteArray) (h1 : S1.size ≤ 100) (h2 : S2.size ≤ 100) (w : World) : (Op.stringOp .add S1 S2).run Tryz.prog w = .ok (.string (S1 ++ S2)) w := run_string_add_sum w _ _ (by omega)
def catP (D : Nat → Int) (P : Nat → List Int) (n : Nat) (zs : List Int) (k : Nat) : List Int := (zs.take k).flatMap fun z => (rpQ D P n z).2
theorem catP_succ {D : Nat → Int} {P : Nat → List Int} {n : Nat} {zs : List Int} {k : Nat} (h : k < zs.length) : catP D P n zs (k + 1) = catP D P n zs k ++ (rpQ D P n (zs.getD k 0)).2 := by
  have hg : zs[k]? = some (zs.getD k 0) := by rw [List.getD_eq_getElem?_getD, List.getElem?_eq_getElem h]; rfl
  unfold catP
  rw [List.take_add_one, hg, List.flatMap_append]
  simp
theorem rp_len {D : Nat → Int} {P : Nat → List Int} {n : Nat} (hR : RightC D P n) (z : Int) : (rpQ D P n z).2.length ≤ 8 := by
  unfold rpQ
  cases hp : partD D P n z with
  | none => simp
  | some bs =>
    obtain ⟨i, hi, -, e9⟩ := partD_some hp
    have := (hR.len i hi).2
    simp only
    rw [← e9]
    exact this
theorem rp_code {D : Nat → Int} {P : Nat → List Int} {n : Nat} (z : Int) : (rpQ D P n z).1 = 0 ∨ (rpQ D P n z).1 = 8 := by
  unfold rpQ
  cases partD D P n z with
  | none => exact .inr rfl
  | some bs => exact .inl rfl
theorem catP_len {D : Nat → Int} {P : Nat → List Int} {n : Nat} (hR : RightC D P n) {zs : List Int} : ∀ k, k ≤ zs.length → (catP D P n zs k).length ≤ 8 * k
  | 0, _ => by simp [catP]
  | k + 1, hk => by
    have ih := catP_len hR (zs := zs) k (by omega)
    rw [catP_succ (by omega), List.length_append]
    have := rp_len hR (zs.getD k 0)
    omega
theorem cat_join {D : Nat → Int} {P : Nat → List Int} {n : Nat} : ∀ {zs bs : List Int}, joinD D P n zs = some bs → zs.flatMap (fun z => (rpQ D P n z).2) = bs
  | [], bs, h => by simpa [joinD] using h
  | z :: r, bs, h => by
    unfold joinD at h
    cases hp : partD D P n z with
    | none => rw [hp] at h; cases h
    | some y =>
      rw [hp] at h
      simp only [Option.bind_some] at h
      obtain ⟨b2, h2, rfl⟩ := Option.map_eq_some_iff.1 h
      rw [List.flatMap_cons, cat_join h2]
      simp [rpQ, hp]
theorem cat_all {D : Nat → Int} {P : Nat → List Int} {n : Nat} {e : En} (h : (rdQ D P n e).1 = 0) : catP D P n e.chunks e.chunks.length = (rdQ D P n e).2 := by
  unfold rdQ at h ⊢
  cases hj : joinD D P n e.chunks with
  | none => rw [hj] at h; cases h
  | some bs =>
    rw [hj] at h
    simp only at h ⊢
    by_cases hs : (bs.length : Int) = e.size
    · rw [if_pos hs]
      unfold catP
      rw [List.take_length]
      exact cat_join hj
    · rw [if_neg hs] at h; cases h
theorem rd_len {D : Nat → Int} {P : Nat → List Int} {n : Nat} {e : En} (hR : RightC D P n) (hc : e.chunks.length ≤ 3) : (rdQ D P n e).2.length ≤ 24 := by
  unfold rdQ
  cases hj : joinD D P n e.chunks with
  | none => simp
  | some bs =>
    have h1 := catP_len hR (zs := e.chunks) e.chunks.length (Nat.le_refl _)
    have h2 := cat_join hj
    unfold catP at h1
    rw [List.take_length, h2] at h1
    simp only
    split <;> simp <;> omega
end Go.Proofs.YtejipahfodhmjaaGreat

