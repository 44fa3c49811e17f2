/-
  Texts put together: LazT LazU LazM OvrR LazN LazV LazW LazX.
-/
import Derived.Test.YtejipahfodhmjaaGreatKLater19
import Derived.Test.YtejipahfodhmjaaGreatKLater18
import Derived.Test.YtejipahfodhmjaaGreatKLater8
import Derived.Test.YtejipahfodhmjaaGreatKLater17
import Derived.Deep.CutRange
import Derived.Laws.BytesArg
namespace Go.Proofs.YtejipahfodhmjaaGreat
open Go.RowKit Go.Maps
set_option linter.unusedVariables false
attribute [local go_sem ↓] Go.wp_at_zero Go.wp_at_succ

def Bx3f (w : World) (b : Nat) (u0 u1 u2 : Value) : Prop := (w.cell? ⟨b, 0, none⟩ = some u0 ∧ w.cell? ⟨b, 1, none⟩ = some u1 ∧ w.cell? ⟨b, 2, none⟩ = some u2) ∧ w.frozen? ⟨b, 0, none⟩ = false ∧ w.frozen? ⟨b, 1, none⟩ = false ∧ w.frozen? ⟨b, 2, none⟩ = false
theorem Bx3f.new (w : World) (u0 u1 u2 : Value) (t : TypeId) : Bx3f (w.alloc (.cells #[u0, u1, u2] t)) w.heap.size u0 u1 u2 := by
  refine ⟨⟨?_, ?_, ?_⟩, ?_, ?_, ?_⟩ <;> simp
theorem Bx3f.below {w w' : World} {b : Nat} {u0 u1 u2 : Value} (h : Bx3f w b u0 u1 u2) (hk : Below w.heap.size w w') : Bx3f w' b u0 u1 u2 := by
  obtain ⟨⟨h0, h1, h2⟩, f0, f1, f2⟩ := h
  have hb : b < w.heap.size := World.block_lt_of_cell? w ⟨b, 0, none⟩ h0
  exact ⟨⟨(hk.cell (p := ⟨b, 0, none⟩) hb).trans h0, (hk.cell (p := ⟨b, 1, none⟩) hb).trans h1, (hk.cell (p := ⟨b, 2, none⟩) hb).trans h2⟩, (hk.frozen (p := ⟨b, 0, none⟩) hb).trans f0, (hk.frozen (p := ⟨b, 1, none⟩) hb).trans f1, (hk.frozen (p := ⟨b, 2, none⟩) hb).trans f2⟩
def filC (ls : List (List En)) (D : Nat → Int) (P : Nat → List Int) (n : Nat) (p : Bs) : Int :=
  if lacF ls D P n = 0 then (if plcC ls p = 0 then (if (lookL ls p).any (fun e => dirK e.kind) then 9 else 0) else plcC ls p) else lacF ls D P n
structure FilE (ls : List (List En)) (D : Nat → Int) (P : Nat → List Int) (n : Nat) (p : Bs) (e : En) : Prop where
  lays : layersP ls = 0
  flt : fault D P n = 0
  plc : plcC ls p = 0
  look : lookL ls p = [e]
  find : findE (allE ls) p = some e
  kind : e.kind = 1
  ent : entFault e = 0
theorem fil_zero {ls : List (List En)} {D : Nat → Int} {P : Nat → List Int} {n : Nat} {p : Bs} (h : filC ls D P n p = 0) : ∃ e, FilE ls D P n p e := by
  unfold filC at h
  by_cases h1 : lacF ls D P n = 0
  · rw [if_pos h1] at h
    obtain ⟨hl, hf⟩ := lac_zero.1 h1
    by_cases h2 : plcC ls p = 0
    · rw [if_pos h2] at h
      obtain ⟨e, he1, he2⟩ := lookL_one h2
      rw [he2] at h
      obtain ⟨h4, hR⟩ := layersP_zero.1 hl
      have hA := all_fit (rights_fit hR)
      obtain ⟨hm, -⟩ := find_mem he1
      have hk := hA.kind e hm
      refine ⟨e, hl, hf, h2, he2, he1, ?_, hA.fit.ent e hm⟩
      by_cases hd : dirK e.kind = true
      · simp [hd] at h
      · have hk' : e.kind = 1 ∨ e.kind = 2 := by simpa [treeK] using hk
        rcases hk' with hk' | hk'
        · exact hk'
        · rw [hk'] at hd; exact absurd (by decide) hd
    · rw [if_neg h2] at h; exact absurd h h2
  · rw [if_neg h1] at h; exact absurd h h1
theorem fil_ne {ls : List (List En)} {D : Nat → Int} {P : Nat → List Int} {n : Nat} {p : Bs} {q : Int} (hq : filC ls D P n p = q) (h : q ≠ 0) : (lacF ls D P n = q) ∨ (lacF ls D P n = 0 ∧ plcC ls p = q) ∨ (lacF ls D P n = 0 ∧ plcC ls p = 0 ∧ q = 9 ∧ ∃ e, lookL ls p = [e] ∧ dirK e.kind = true) := by
  unfold filC at hq
  by_cases h1 : lacF ls D P n = 0
  · rw [if_pos h1] at hq
    by_cases h2 : plcC ls p = 0
    · rw [if_pos h2] at hq
      obtain ⟨e, he1, he2⟩ := lookL_one h2
      rw [he2] at hq
      by_cases hd : dirK e.kind = true
      · exact .inr (.inr ⟨h1, h2, by simpa [hd] using hq.symm, e, he2, hd⟩)
      · simp [hd] at hq; exact absurd hq.symm h
    · rw [if_neg h2] at hq; exact .inr (.inl ⟨h1, hq⟩)
  · rw [if_neg h1] at hq; exact .inl hq
set_option maxRecDepth 100000 in
set_option maxHeartbeats 3200000 in
theorem fileOver_bad (a : Option Addr) (c m : Nat) (ls : List (List En)) (b : Option Addr) (d n : Nat) (D : Nat → Int) (P : Nat → List Int) (p : Bs) (w : World) (h : RdL w a ls) (hm : m = ls.length) (hl : ls.length ≤ 1048576) (hs : SmallL ls) (hC : RdC w b D P n) (hn : n ≤ 1048576) (hP : ∀ i, i < n → U8 (P i) ∧ (P i).length ≤ 1048576) (hpl : p.length ≤ 1048576) (q : Int) (hq : filC ls D P n p = q) (hz : q ≠ 0) :
    Calls Tryz.prog 32 #[.slice a m c, .slice b n d, .string (str p)] w fun e w' => e = .returned (.tuple #[.agg #[.int .i64 0, .slice none 0 0, .map none], .int .i64 q]) ∧ Below w.heap.size w w' := by
  subst hm
  have B0 := hide (below_alloc w (.cells #[.int .i64 0, .slice none 0 0, .map none] 69))
  have X0 := hide (Bx3f.new w (.int .i64 0) (.slice none 0 0) (.map none) 69)
  have HLF := hide (lacFault_any a c ls.length ls b d n D P _ (h.below B0.out) rfl hl hs (hC.below B0.out) hn hP)
  have HLO := hide (fun (u : World) (hu : Below w.heap.size w u) => implLookOver_any a c ls.length ls p u (h.below hu) rfl hl hs hpl)
  have hne : (q != 0) = true := by simpa using hz
  have hcs := fil_ne hq hz
  clear h hs hC hP hq
  rcases hcs with h1 | ⟨h1, h2⟩ | ⟨h1, h2, h3, e, h4, h5⟩
  · rw [h1] at HLF
    clear h1 HLO hz
    go_enter Tryz.func32, Tryz.ntmps32
    go_wp2_with fail
    refine HLF.out.mono ?_
    rintro r w1 ⟨rfl, hb1⟩
    have B1 := hide (below_next B0.out hb1)
    obtain ⟨⟨t0, t1, t2⟩, f0, f1, f2⟩ := X0.out.below hb1
    clear hb1
    go_wp2_with fail
    exact bodyPost_ret (v := .tuple #[.agg #[.int .i64 0, .slice none 0 0, .map none], .int .i64 q]) (by simp [results, Tryz.results32, go_sem, t0, t1, t2]) rfl ⟨rfl, ((B1.out.setCell (p := ⟨w.heap.size, 0, none⟩) (Nat.le_refl _) _).setCell (p := ⟨w.heap.size, 1, none⟩) (Nat.le_refl _) _).setCell (p := ⟨w.heap.size, 2, none⟩) (Nat.le_refl _) _⟩
  · rw [h1] at HLF
    rw [h2] at HLO
    clear h1 h2 hz
    go_enter Tryz.func32, Tryz.ntmps32
    go_wp2_with fail
    refine HLF.out.mono ?_
    rintro r w1 ⟨rfl, hb1⟩
    have B1 := hide (below_next B0.out hb1)
    have X1 := hide (X0.out.below hb1)
    clear hb1 HLF B0 X0
    go_wp2_with fail
    refine (HLO.out w1 B1.out).mono ?_
    rintro r w2 ⟨av, cv, rfl, hG2, hb2⟩
    generalize (lookL ls p).length = LN at *
    have A2 := hide (below_alloc w2 (.cells #[.int .i64 q, .slice av LN cv] 37))
    have B9 := hide (below_next (below_next B1.out hb2) A2.out)
    have Q2 := hide (Two.new w2 (.int .i64 q) (.slice av LN cv) 37)
    have X2 := hide ((X1.out.below hb2).below A2.out)
    have hlt : w.heap.size < w2.heap.size := Nat.lt_of_lt_of_le (World.block_lt_of_cell? w1 ⟨w.heap.size, 0, none⟩ X1.out.1.1) hb2.size
    have hne1 : ¬ w.heap.size = w2.heap.size := by omega
    have hne2 : ¬ w2.heap.size = w.heap.size := by omega
    clear hG2 hb2 A2 X1 B1
    obtain ⟨⟨t0, t1, t2⟩, f0, f1, f2⟩ := X2.out
    obtain ⟨q0, q1⟩ := Q2.out
    go_upto_region 6 with fail
    generalize w2.alloc (.cells #[.int .i64 q, .slice av LN cv] 37) = W2 at *
    go_region
    all_goals
      go_wp2_with fail
      exact bodyPost_ret (v := .tuple #[.agg #[.int .i64 0, .slice none 0 0, .map none], .int .i64 q]) (by simp [results, Tryz.results32, go_sem, t0, t1, t2]) rfl ⟨rfl, ((B9.out.drew.setCell (p := ⟨w.heap.size, 0, none⟩) (Nat.le_refl _) _).setCell (p := ⟨w.heap.size, 1, none⟩) (Nat.le_refl _) _).setCell (p := ⟨w.heap.size, 2, none⟩) (Nat.le_refl _) _⟩
  · rw [h1] at HLF
    rw [h2, h4] at HLO
    subst h3
    clear h1 h2 h4 hz
    go_enter Tryz.func32, Tryz.ntmps32
    go_wp2_with fail
    refine HLF.out.mono ?_
    rintro r w1 ⟨rfl, hb1⟩
    have B1 := hide (below_next B0.out hb1)
    have X1 := hide (X0.out.below hb1)
    clear hb1 HLF B0 X0
    go_wp2_with fail
    refine (HLO.out w1 B1.out).mono ?_
    rintro r w2 ⟨av, cv, rfl, hG2, hb2⟩
    have R2 := hide hG2.rd
    have A2 := hide (below_alloc w2 (.cells #[.int .i64 0, .slice av [e].length cv] 37))
    have B2 := hide (below_next (below_next B1.out hb2) A2.out)
    have Q2 := hide (Two.new w2 (.int .i64 0) (.slice av [e].length cv) 37)
    have X2 := hide ((X1.out.below hb2).below A2.out)
    obtain ⟨bb, off, e', x, cc, rfl, hbb, he, z0, z1, z2, z3, hrc⟩ := (R2.out.below A2.out).at (k := 0) (by simp)
    have e9 : e' = e := by simpa using he.symm
    subst e9
    clear hG2 hb2 A2 X1 B1 R2 he hrc
    obtain ⟨⟨t0, t1, t2⟩, f0, f1, f2⟩ := X2.out
    obtain ⟨q0, q1⟩ := Q2.out
    simp only [List.length_cons, List.length_nil, Nat.zero_add, Nat.zero_mul, Nat.add_zero] at q0 q1 z0 z1 z2 z3 ⊢
    go_wp2_with fail
    refine (itemOf_any _ _ _ _ _ _ _).mono ?_
    rintro r w3 ⟨rfl, hb3⟩
    have A3 := hide (below_alloc w3 (.cells #[.int .i64 e'.size, .slice x e'.chunks.length cc, .string (str e'.path), .int .i64 e'.kind] 91))
    have F3 := hide (Four.new w3 (.int .i64 e'.size) (.slice x e'.chunks.length cc) (.string (str e'.path)) (.int .i64 e'.kind) 91)
    have B3 := hide (below_next (below_next B2.out hb3) A3.out)
    have X3 := hide ((X2.out.below hb3).below A3.out)
    clear hb3 A3 X2 B2 t0 t1 t2 f0 f1 f2 q0 q1 z0 z1 z2 z3
    obtain ⟨i0, i1, i2, i3⟩ := F3.out
    go_wp2_with fail
    clear i0 i1 i2 i3
    generalize w3.alloc (.cells #[.int .i64 e'.size, .slice x e'.chunks.length cc, .string (str e'.path), .int .i64 e'.kind] 91) = W3 at *
    refine (isDir_any _ _ _ _ _ _ _).mono ?_
    rintro r w4 ⟨rfl, hb4⟩
    rw [h5]
    have B9 := hide (below_next B3.out hb4)
    obtain ⟨⟨t0, t1, t2⟩, f0, f1, f2⟩ := X3.out.below hb4
    clear hb4 h5
    go_wp2_with fail
    exact bodyPost_ret (v := .tuple #[.agg #[.int .i64 0, .slice none 0 0, .map none], .int .i64 9]) (by simp [results, Tryz.results32, go_sem, t0, t1, t2]) rfl ⟨rfl, ((B9.out.setCell (p := ⟨w.heap.size, 0, none⟩) (Nat.le_refl _) _).setCell (p := ⟨w.heap.size, 1, none⟩) (Nat.le_refl _) _).setCell (p := ⟨w.heap.size, 2, none⟩) (Nat.le_refl _) _⟩
set_option maxRecDepth 100000 in
set_option maxHeartbeats 3200000 in
theorem fileOver_ok (a : Option Addr) (c m : Nat) (ls : List (List En)) (b : Option Addr) (d n : Nat) (D : Nat → Int) (P : Nat → List Int) (p : Bs) (w : World) (h : RdL w a ls) (hm : m = ls.length) (hl : ls.length ≤ 1048576) (hs : SmallL ls) (hC : RdC w b D P n) (hn : n ≤ 1048576) (hP : ∀ i, i < n → U8 (P i) ∧ (P i).length ≤ 1048576) (hpl : p.length ≤ 1048576) (e : En) (hE : FilE ls D P n p e) :
    Calls Tryz.prog 32 #[.slice a m c, .slice b n d, .string (str p)] w fun r w' => ∃ x cc bm T, r = .returned (.tuple #[.agg #[.int .i64 e.size, .slice x e.chunks.length cc, .map (some bm)], .int .i64 0]) ∧ Reads .i64 w' x e.chunks ∧ Holds w' bm n (lst D P n) T ∧ T ≤ w'.heap.size ∧ Below w.heap.size w w' := by
  subst hm
  have B0 := hide (below_alloc w (.cells #[.int .i64 0, .slice none 0 0, .map none] 69))
  have X0 := hide (Bx3f.new w (.int .i64 0) (.slice none 0 0) (.map none) 69)
  have HLF := hide (lacFault_any a c ls.length ls b d n D P _ (h.below B0.out) rfl hl hs (hC.below B0.out) hn hP)
  have HLO := hide (fun (u : World) (hu : Below w.heap.size w u) => implLookOver_any a c ls.length ls p u (h.below hu) rfl hl hs hpl)
  have HMC := hide (fun (u : World) (hu : Below w.heap.size w u) => mapChunks_from b d n D P w u hC hu (fault_zero hE.flt))
  rw [lac_zero.2 ⟨hE.lays, hE.flt⟩] at HLF
  rw [hE.plc, hE.look] at HLO
  have h5 : dirK e.kind = false := by rw [hE.kind]; decide
  clear h hs hC hP hE
  go_enter Tryz.func32, Tryz.ntmps32
  go_wp2_with fail
  refine HLF.out.mono ?_
  rintro r w1 ⟨rfl, hb1⟩
  have B1 := hide (below_next B0.out hb1)
  have X1 := hide (X0.out.below hb1)
  clear hb1 HLF B0 X0
  go_wp2_with fail
  refine (HLO.out w1 B1.out).mono ?_
  rintro r w2 ⟨av, cv, rfl, hG2, hb2⟩
  have hwlt : w.heap.size < w2.heap.size := Nat.lt_of_lt_of_le (World.block_lt_of_cell? w1 ⟨w.heap.size, 0, none⟩ X1.out.1.1) hb2.size
  have A2 := hide (below_alloc w2 (.cells #[.int .i64 0, .slice av [e].length cv] 37))
  have B2 := hide (below_next (below_next B1.out hb2) A2.out)
  have Q2 := hide (Two.new w2 (.int .i64 0) (.slice av [e].length cv) 37)
  have X2 := hide ((X1.out.below hb2).below A2.out)
  obtain ⟨e', he'⟩ : ∃ e', e' = e := ⟨_, rfl⟩
  subst he'
  obtain ⟨bb, x, cc, hav, hBG, hGT, z0, z1, z2, z3, -, hox, hblk, -⟩ := hG2.open (j := 0) (e := e') rfl
  subst hav
  have hbl : bb < w2.heap.size := World.block_lt_of_cell? w2 ⟨bb, 0 * 4, none⟩ z0
  have z0 := (A2.out.cell (p := ⟨bb, 0 * 4, none⟩) hbl).trans z0
  have z1 := (A2.out.cell (p := ⟨bb, 0 * 4 + 1, none⟩) hbl).trans z1
  have z2 := (A2.out.cell (p := ⟨bb, 0 * 4 + 2, none⟩) hbl).trans z2
  have z3 := (A2.out.cell (p := ⟨bb, 0 * 4 + 3, none⟩) hbl).trans z3
  have RC := hide (hox.reads.below A2.out)
  have HBK := hide (show ∀ y, x = some y → w.heap.size < y.block from fun y hy => by
    have h1 := (hblk y.block (by rw [hy]; rfl)).1
    have h2 : w.heap.size < w1.heap.size := World.block_lt_of_cell? w1 ⟨w.heap.size, 0, none⟩ X1.out.1.1
    omega)
  clear hG2 hb2 A2 X1 B1 hox hblk hBG hGT hbl
  obtain ⟨⟨t0, t1, t2⟩, f0, f1, f2⟩ := X2.out
  obtain ⟨q0, q1⟩ := Q2.out
  simp only [List.length_cons, List.length_nil, Nat.zero_add, Nat.zero_mul] at q0 q1 z0 z1 z2 z3 ⊢
  go_wp2_with fail
  refine (itemOf_any _ _ _ _ _ _ _).mono ?_
  rintro r w3 ⟨rfl, hb3⟩
  have A3 := hide (below_alloc w3 (.cells #[.int .i64 e'.size, .slice x e'.chunks.length cc, .string (str e'.path), .int .i64 e'.kind] 91))
  have F3 := hide (Four.new w3 (.int .i64 e'.size) (.slice x e'.chunks.length cc) (.string (str e'.path)) (.int .i64 e'.kind) 91)
  have B3 := hide (below_next (below_next B2.out hb3) A3.out)
  have X3 := hide ((X2.out.below hb3).below A3.out)
  have RC3 := hide ((RC.out.below hb3).below A3.out)
  have hwl3 : w.heap.size < w3.heap.size := by have := hb3.size; simp at this; omega
  clear hb3 A3 X2 B2 RC t0 t1 t2 f0 f1 f2 q0 q1 z0 z1 z2 z3
  obtain ⟨i0, i1, i2, i3⟩ := F3.out
  go_wp2_with fail
  clear i0 i1 i2 i3
  generalize w3.alloc (.cells #[.int .i64 e'.size, .slice x e'.chunks.length cc, .string (str e'.path), .int .i64 e'.kind] 91) = W3 at *
  obtain ⟨ib, hib⟩ : ∃ ib, ib = w3.heap.size := ⟨_, rfl⟩
  rw [← hib] at F3 hwl3 ⊢
  clear hib
  refine (isDir_any _ _ _ _ _ _ _).mono ?_
  rintro r w4 ⟨rfl, hb4⟩
  rw [h5]
  have B4 := hide (below_next B3.out hb4)
  have X4 := hide (X3.out.below hb4)
  have RC4 := hide (RC3.out.below hb4)
  have F4 := hide (F3.out.below hb4)
  clear hb4 h5 X3 B3 RC3 F3
  obtain ⟨RB, hRB⟩ : ∃ RB, RB = w.heap.size := ⟨_, rfl⟩
  rw [← hRB] at X4 hwl3 HBK
  have hir1 : ¬ ib = RB := by omega
  have hir2 : ¬ RB = ib := by omega
  have HRB := hide hRB
  have hBl : RB < w4.heap.size := World.block_lt_of_cell? w4 ⟨RB, 0, none⟩ X4.out.1.1
  have KB : Hid (∀ u : World, Below w4.heap.size w4 u → (u.cell? ⟨ib, 0, none⟩ = some (.int .i64 e'.size) ∧ u.cell? ⟨ib, 1, none⟩ = some (.slice x e'.chunks.length cc)) ∧ ((u.cell? ⟨RB, 0, none⟩ = some (.int .i64 0) ∧ u.cell? ⟨RB, 1, none⟩ = some (.slice none 0 0) ∧ u.cell? ⟨RB, 2, none⟩ = some (.map none)) ∧ u.frozen? ⟨RB, 0, none⟩ = false ∧ u.frozen? ⟨RB, 1, none⟩ = false ∧ u.frozen? ⟨RB, 2, none⟩ = false)) := hide (fun u hu => ⟨⟨(F4.out.below hu).1, (F4.out.below hu).2.1⟩, X4.out.below hu⟩)
  have BD := hide ((Below.refl w4.heap.size w4).drew)
  rw [← hRB]
  clear hRB
  obtain ⟨⟨i0, i1⟩, ⟨t0, t1, t2⟩, f0, f1, f2⟩ := KB.out w4 (Below.refl _ _)
  go_upto_region 10 with fail
  clear i0 i1 t0 t1 t2 f0 f1 f2
  go_region_held3 (fun u => u.cell? ⟨ib, 0, none⟩ = some (.int .i64 e'.size) ∧ u.cell? ⟨ib, 1, none⟩ = some (.slice x e'.chunks.length cc)) (first | exact (KB.out _ BB5.out).1 | exact (KB.out _ BD.out).1 | exact KS.out _ _ _ | go_keep)
    ((go_at_call 50; refine (HMC.out _ (below_next B4.out BD.out)).mono ?_; rintro r w5 ⟨bm, rfl, hbm, hH5, hb5⟩; have H5 := hide hH5; have BB5 := hide (BD.out.trans hb5); obtain ⟨⟨i0, i1⟩, ⟨t0, t1, t2⟩, f0, f1, f2⟩ := KB.out _ BB5.out; have hil : ib < w5.heap.size := World.block_lt_of_cell? w5 ⟨ib, 0, none⟩ i0; have KK := hide (fun (v0 v1 v2 : Value) => show Kept (fun b => b = RB) w5 (((w5.setCell ⟨RB, 0, none⟩ v0).setCell ⟨RB, 1, none⟩ v1).setCell ⟨RB, 2, none⟩ v2) from Kept.setCell (S := fun b => b = RB) (p := ⟨RB, 2, none⟩) (Kept.two _ _ _ _ _ _) (fun _ => rfl) _); have KS := hide (fun (v0 v1 v2 : Value) => And.intro (((KK.out v0 v1 v2).cell (p := ⟨ib, 0, none⟩) hil hir1).trans i0) (((KK.out v0 v1 v2).cell (p := ⟨ib, 1, none⟩) hil hir1).trans i1)); clear hH5 hb5))
  go_wp2_with fail
  refine bodyPost_ret (v := .tuple #[.agg #[.int .i64 e'.size, .slice x e'.chunks.length cc, .map (some bm)], .int .i64 0]) (by simp [results, Tryz.results32, go_sem, t0, t1, t2]) rfl ⟨x, cc, bm, w.heap.size, rfl, ?_, ?_, ?_, ?_⟩
  · exact (RC4.out.below BB5.out).kept (KK.out _ _ _) (fun _ y hy e => by have := HBK.out y hy; omega)
  · exact H5.out.kept (KK.out _ _ _) (fun e => by have : w4.drew.heap.size = w4.heap.size := rfl; omega) (fun y hy => by have := HRB.out; omega)
  · have := (below_next B4.out BB5.out).size
    simpa [World.setCell] using this
  · rw [HRB.out]
    exact (((below_next B4.out BB5.out).setCell (p := ⟨w.heap.size, 0, none⟩) (Nat.le_refl _) _).setCell (p := ⟨w.heap.size, 1, none⟩) (Nat.le_refl _) _).setCell (p := ⟨w.heap.size, 2, none⟩) (Nat.le_refl _) _
end Go.Proofs.YtejipahfodhmjaaGreat

namespace Go.Proofs.YtejipahfodhmjaaGreat
open Go.RowKit Go.Maps
set_option linter.unusedVariables false
attribute [local go_sem ↓] Go.wp_at_zero Go.wp_at_succ

def rdQ (D : Nat → Int) (P : Nat → List Int) (n : Nat) (e : En) : Int × List Int :=
  match joinD D P n e.chunks with
  | none => (8, [])
  | some bs => if (bs.length : Int) = e.size then (0, bs) else (6, [])
theorem joinTo_flat (js : Nat → List Int) (m : Nat) : ((List.range m).map js).flatten = joinTo js m := by unfold joinTo; rw [List.flatMap_def]
theorem ResB.of {q : Int} {zs : List Int} {w w3 : World} {B b n : Nat} {av : Option Addr} {cv : Nat} {u v : Value} (hB : b < B) (hw : w.heap.size ≤ b) (hn : n = zs.length) (hG : w3.ownsRow B 5 1 (.slice av n cv) n (zs.map (Value.int .u8))) (hb : Below w.heap.size w w3) :
    ResB q zs w (.returned (.agg #[.int .i64 q, .slice av n cv])) ((w3.setCell ⟨b, 0, none⟩ u).setCell ⟨b, 1, none⟩ v) := by
  subst hn
  refine ⟨av, cv, rfl, ?_, (hb.setCell hw _).setCell hw _⟩
  exact GB.mk (ownsRow_mono (ownsRow_kept (S := fun x => x = b) hG (Kept.two _ _ _ _ _ _) (fun x hx e => by have := (hG.lt x hx).1; omega)) (by omega)) rfl
set_option maxRecDepth 100000 in
set_option maxHeartbeats 1600000 in
theorem implReadOver_bad (a : Option Addr) (c m : Nat) (ls : List (List En)) (b : Option Addr) (d n : Nat) (D : Nat → Int) (P : Nat → List Int) (p : Bs) (w : World) (h : RdL w a ls) (hm : m = ls.length) (hl : ls.length ≤ 1048576) (hs : SmallL ls) (hC : RdC w b D P n) (hn : n ≤ 1048576) (hP : ∀ i, i < n → U8 (P i) ∧ (P i).length ≤ 1048576) (hpl : p.length ≤ 1048576) (q : Int) (hq : filC ls D P n p = q) (hz : q ≠ 0) :
    Calls Tryz.prog 9 #[.slice a m c, .slice b n d, .string (str p)] w (ResB q [] w) := by
  subst hm
  have X0 := hide (Box.new w (.int .i64 0) (.slice none 0 0) 29)
  have B0 := hide (below_alloc w (.cells #[.int .i64 0, .slice none 0 0] 29))
  have HF := hide (fileOver_bad a c ls.length ls b d n D P p _ (h.below B0.out) rfl hl hs (hC.below B0.out) hn hP hpl q hq hz)
  have hne : (q != 0) = true := by simpa using hz
  clear h hs hC hP hq hz
  go_enter Tryz.func9, Tryz.ntmps9
  go_wp2_with fail
  refine HF.out.mono ?_
  rintro r w1 ⟨rfl, hb1⟩
  have A1 := hide (below_alloc w1 (.cells #[.int .i64 0, .slice none 0 0, .map none] 69))
  have B1 := hide (below_next (below_next B0.out hb1) A1.out)
  have X1 := hide ((X0.out.below hb1).below A1.out)
  clear hb1 X0 B0 A1
  obtain ⟨⟨t0, t1⟩, t2, t3⟩ := X1.out
  go_wp2_with fail
  exact bodyPost_ret (v := .agg #[.int .i64 q, .slice none 0 0]) (by simp [results, Tryz.results9, go_sem, t0, t1]) rfl (ResB.no ((B1.out.setCell (Nat.le_refl _) _).setCell (Nat.le_refl _) _))
set_option maxRecDepth 100000 in
set_option maxHeartbeats 3200000 in
theorem implReadOver_ok (a : Option Addr) (c m : Nat) (ls : List (List En)) (b : Option Addr) (d n : Nat) (D : Nat → Int) (P : Nat → List Int) (p : Bs) (w : World) (h : RdL w a ls) (hm : m = ls.length) (hl : ls.length ≤ 1048576) (hs : SmallL ls) (hC : RdC w b D P n) (hn : n ≤ 1048576) (hP : ∀ i, i < n → U8 (P i) ∧ (P i).length ≤ 1048576) (hpl : p.length ≤ 1048576) (e : En) (hE : FilE ls D P n p e) :
    Calls Tryz.prog 9 #[.slice a m c, .slice b n d, .string (str p)] w (ResB (rdQ D P n e).1 (rdQ D P n e).2 w) := by
  subst hm
  have X0 := hide (Box.new w (.int .i64 0) (.slice none 0 0) 29)
  have B0 := hide (below_alloc w (.cells #[.int .i64 0, .slice none 0 0] 29))
  have HF := hide (fileOver_ok a c ls.length ls b d n D P p _ (h.below B0.out) rfl hl hs (hC.below B0.out) hn hP hpl e hE)
  have hc3 := entFault_chunks hE.ent
  have HDG := hide (show ∀ j, j < e.chunks.length → 0 ≤ e.chunks.getD j 0 ∧ e.chunks.getD j 0 ≤ 4294967295 from fun j hj => ent_digs hE.ent _ (getD_mem 0 hj))
  have HRt := hide (fault_zero hE.flt)
  obtain ⟨m, js, hm, hj, hno, hjd⟩ := join_cases D P n e.chunks
  have HJ := hide hj
  have HNo := hide hno
  have HJL := hide (show ∀ j, j < m → 1 ≤ (js j).length ∧ (js j).length ≤ 8 from fun j hj' => by obtain ⟨i, hi, _, e9⟩ := HJ.out j hj'; rw [← e9]; exact HRt.out.len i hi)
  have HQ := hide (show rdQ D P n e = if m = e.chunks.length then (if ((joinTo js m).length : Int) = e.size then (0, joinTo js m) else (6, [])) else (8, []) from by
    unfold rdQ
    rw [hjd]
    by_cases h9 : m = e.chunks.length
    · rw [if_pos h9, if_pos h9]
    · rw [if_neg h9, if_neg h9])
  generalize rdQ D P n e = Q at *
  clear h hs hC hP hE hj hno hjd
  go_enter Tryz.func9, Tryz.ntmps9
  go_wp2_with fail
  refine HF.out.mono ?_
  rintro r w1 ⟨x, cc, bm, T, rfl, hr1, hH1, hT1, hb1⟩
  have A1 := hide (below_alloc w1 (.cells #[.int .i64 e.size, .slice x e.chunks.length cc, .map (some bm)] 69))
  have F1 := hide (Bx3z.new w1 (.int .i64 e.size) (.slice x e.chunks.length cc) (.map (some bm)) 69)
  have B1 := hide (below_next (below_next B0.out hb1) A1.out)
  have X1 := hide ((X0.out.below hb1).below A1.out)
  have R1 := hide (hr1.below A1.out)
  have H1 := hide (hH1.below A1.out)
  have hTA : T ≤ (w1.alloc (.cells #[.int .i64 e.size, .slice x e.chunks.length cc, .map (some bm)] 69)).heap.size := by simp; omega
  have hwl : w.heap.size < w1.heap.size := Nat.lt_of_lt_of_le (X0.out.1.lt) hb1.size
  clear hb1 X0 B0 A1 hr1 hH1 hT1 HF
  obtain ⟨t0, t1, t2⟩ := F1.out
  go_wp2_with fail
  clear t0 t1 t2
  generalize w1.alloc (.cells #[.int .i64 e.size, .slice x e.chunks.length cc, .map (some bm)] 69) = W1 at *
  obtain ⟨lb, hlb⟩ : ∃ lb, lb = w1.heap.size := ⟨_, rfl⟩
  rw [← hlb] at F1 ⊢
  clear hlb
  refine (parts_any e.size x cc e.chunks bm n T D P W1 R1.out H1.out hTA hc3 HDG.out m hm js HJ.out HNo.out).mono ?_
  rintro r w2 ⟨hor, hb2⟩
  have X2 := hide (X1.out.below hb2)
  have B2 := hide (below_next B1.out hb2)
  have F2 := hide (F1.out.below hb2)
  have hw2 : w.heap.size < w2.heap.size := X2.out.1.lt
  clear hb2 X1 F1 R1 H1 hTA
  rcases hor with ⟨hme, v, ps, B, rfl, hps, hpm⟩ | ⟨hme, rfl⟩
  · rw [if_pos hme] at HQ
    have hpl2 : ps.length = m := by have := congrArg List.length hpm; simpa using this
    obtain ⟨pv, pc, rfl⟩ := ownsRow_shape hps.row
    have HJN := hide (joined_any pv pc B ps w2 hps (by omega) (fun q hq => by
      have h1 : q.2.1 ∈ ps.map (fun p => p.2.1) := List.mem_map.2 ⟨q, hq, rfl⟩
      rw [hpm] at h1
      obtain ⟨j, hj, e9⟩ := List.mem_map.1 h1
      rw [← e9]
      exact HJL.out j (List.mem_range.1 hj)))
    rw [hpm, joinTo_flat] at HJN
    generalize joinTo js m = bs at *
    clear hps hpm hme HJ HNo HJL hpl2
    go_wp2_with fail
    refine HJN.out.mono ?_
    rintro r w3 ⟨a3, c3, rfl, ho3, hb3⟩
    have O3 := hide ho3
    have B3 := hide (below_next B2.out hb3)
    have X3 := hide (X2.out.below hb3)
    have F3 := hide (F2.out.below hb3)
    clear ho3 hb3 X2 F2 B2 HJN
    obtain ⟨f0, f1, f2⟩ := F3.out
    obtain ⟨⟨t0, t1⟩, t2, t3⟩ := X3.out
    by_cases hsz : (bs.length : Int) = e.size
    · rw [if_pos hsz] at HQ
      have hsb : ((bs.length : Int) != e.size) = false := by simpa using hsz
      clear hsz
      go_wp2_with fail
      rw [HQ.out]
      exact bodyPost_ret (v := .agg #[.int .i64 0, .slice a3 bs.length c3]) (by simp [results, Tryz.results9, go_sem, t0, t1]) rfl (ResB.of hw2 (Nat.le_refl _) rfl O3.out B3.out)
    · rw [if_neg hsz] at HQ
      have hsb : ((bs.length : Int) != e.size) = true := by simpa using hsz
      clear hsz
      go_wp2_with fail
      rw [HQ.out]
      exact bodyPost_ret (v := .agg #[.int .i64 6, .slice none 0 0]) (by simp [results, Tryz.results9, go_sem, t0, t1]) rfl (ResB.no ((B3.out.setCell (Nat.le_refl _) _).setCell (Nat.le_refl _) _))
  · rw [if_neg (by omega)] at HQ
    clear HJ HNo HJL
    obtain ⟨⟨t0, t1⟩, t2, t3⟩ := X2.out
    go_wp2_with fail
    rw [HQ.out]
    exact bodyPost_ret (v := .agg #[.int .i64 8, .slice none 0 0]) (by simp [results, Tryz.results9, go_sem, t0, t1]) rfl (ResB.no ((B2.out.setCell (Nat.le_refl _) _).setCell (Nat.le_refl _) _))
end Go.Proofs.YtejipahfodhmjaaGreat

namespace Go.Proofs.YtejipahfodhmjaaGreat
open Go.RowKit Go.Maps
set_option linter.unusedVariables false
attribute [local go_sem ↓] Go.wp_at_zero Go.wp_at_succ

set_option maxHeartbeats 800000 in
theorem drawReadOver_any (a : Option Addr) (cap : Nat) (zs : List Int) (w : World) (h : Reads .u8 w a zs) (hu : U8 zs) (hl : zs.length ≤ 1048576) :
    Calls Tryz.prog 8 #[.slice a zs.length cap] w (WthR w) := by
  have HW := hide (l11With_any a cap zs w h hu hl)
  clear h hu
  go_enter Tryz.func8, Tryz.ntmps8
  go_wp2_with fail
  refine HW.out.mono ?_
  rintro e w1 ⟨va, vc, ls, ca, cc, n, D, P, q, rfl, hrest⟩
  have H := hide hrest
  clear hrest
  go_wp2_with fail
  exact bodyPost_ret (v := .tuple #[.slice va ls.length vc, .slice ca n cc, .string (str q)]) (by simp [results, Tryz.results8, go_sem]) rfl ⟨va, vc, ls, ca, cc, n, D, P, q, rfl, H.out⟩
end Go.Proofs.YtejipahfodhmjaaGreat

namespace Go.Proofs.YtejipahfodhmjaaGreat
open Go.RowKit Go.Maps
set_option linter.unusedVariables false
attribute [local go_sem ↓] Go.wp_at_zero Go.wp_at_succ

theorem boxR_two {w : World} {B : Nat} {u v : Value} (h : Box w B u v) (u' v' : Value) : Box ((w.setCell ⟨B, 0, none⟩ u').setCell ⟨B, 1, none⟩ v') B u' v' := by
  obtain ⟨⟨m0, m1⟩, m2, m3⟩ := h
  refine ⟨⟨?_, ?_⟩, ?_, ?_⟩
  · rw [cell_set_other (by simp)]; exact cell_set_same m0
  · exact cell_set_same (u := v) (by rw [cell_set_other (by simp)]; exact m1)
  · rw [World.frozen?_setCell, World.frozen?_setCell]; exact m2
  · rw [World.frozen?_setCell, World.frozen?_setCell]; exact m3
set_option maxRecDepth 100000 in
set_option maxHeartbeats 3200000 in
theorem specLookOver_any (a : Option Addr) (c n : Nat) (ls : List (List En)) (p : Bs) (w : World) (h : RdL w a ls) (hn : n = ls.length) (hl : ls.length ≤ 1048576) (hs : SmallL ls) (hg : ∀ es ∈ ls, layFault es = layFaultP es) (hpl : p.length ≤ 1048576) :
    Calls Tryz.prog 84 #[.slice a n c, .string (str p)] w fun r w' => ∃ av cv, r = .returned (.agg #[.int .i64 (plcC ls p), .slice av (lookL ls p).length cv]) ∧ (∀ e, lookL ls p = [e] → ∃ b, av = some ⟨b, 0, none⟩ ∧ b < w'.heap.size ∧ w'.cell? ⟨b, 1, none⟩ = some (.int .i64 e.kind)) ∧ Below w.heap.size w w' := by
  subst hn
  have X0 := hide (Box.new w (.int .i64 0) (.slice none 0 0) 37)
  have B0 := hide (below_alloc w (.cells #[.int .i64 0, .slice none 0 0] 37))
  have HR := hide h
  have HAS := hide (l8Asked_any a c ls.length ls p _ (h.below B0.out) rfl hl hs hg hpl)
  clear h hs hg
  by_cases hz : askL ls p = 0
  · obtain ⟨h4, hRs, hp⟩ := askL_right hz
    rw [hz] at HAS
    cases hs : seenL ls p with
    | none =>
      obtain ⟨hc, -, hv⟩ := plc_none hz hs
      have HC := hide (And.intro hc hv)
      have HLK := hide (fun u (hu : Below w.heap.size w u) => l8Look_none a c ls.length ls p u (HR.out.below hu) rfl h4 hRs hp hpl hs)
      clear hs hc hv hz hRs
      go_enter Tryz.func84, Tryz.ntmps84
      go_wp2_with fail
      refine HAS.out.mono ?_
      rintro r w1 ⟨rfl, hb1⟩
      have B1 := hide (below_next B0.out hb1)
      have X1 := hide (X0.out.below hb1)
      clear hb1
      go_wp2_with fail
      refine (HLK.out w1 B1.out).mono ?_
      rintro r w2 ⟨rfl, hb2⟩
      have BA := hide (below_alloc w2 (.cells #[.string ⟨#[]⟩, .int .i64 0, .int .i64 0, .slice none 0 0] 40))
      have B2 := hide (below_next B1.out (below_next hb2 BA.out))
      obtain ⟨⟨t0, t1⟩, t2, t3⟩ := X1.out.below (below_next hb2 BA.out)
      clear hb2
      go_wp2_with fail
      rw [HC.out.1, HC.out.2]
      exact bodyPost_ret (v := .agg #[.int .i64 4, .slice none 0 0]) (by simp [results, Tryz.results84, go_sem, t0, t1]) rfl ⟨none, 0, rfl, fun e he => (by cases he), (B2.out.setCell (p := ⟨w.heap.size, 0, none⟩) (Nat.le_refl _) _).setCell (p := ⟨w.heap.size, 1, none⟩) (Nat.le_refl _) _⟩
    | some i =>
      obtain ⟨-, e, he, -⟩ := seen_some (show seenG (seeL ls) p 4 = some i from hs)
      obtain ⟨hc, -, hv⟩ := plc_some hz hs he
      have HC := hide (And.intro hc hv)
      have HLK := hide (fun u (hu : Below w.heap.size w u) => l8Look_some a c ls.length ls p u (HR.out.below hu) rfl h4 hRs hp hpl i e hs he)
      clear hs hc hv hz hRs he
      generalize asT e = E at *
      go_enter Tryz.func84, Tryz.ntmps84
      go_wp2_with fail
      refine HAS.out.mono ?_
      rintro r w1 ⟨rfl, hb1⟩
      have B1 := hide (below_next B0.out hb1)
      have X1 := hide (X0.out.below hb1)
      clear hb1
      go_wp2_with fail
      refine (HLK.out w1 B1.out).mono ?_
      rintro r w2 ⟨x, xc, rfl, -, hb2⟩
      have BA := hide (below_alloc w2 (.cells #[.string (str E.path), .int .i64 E.kind, .int .i64 E.size, .slice x E.chunks.length xc] 40))
      have F2 := hide (Four.new w2 (.string (str E.path)) (.int .i64 E.kind) (.int .i64 E.size) (.slice x E.chunks.length xc) 40)
      have B2 := hide (below_next B1.out (below_next hb2 BA.out))
      have X2 := hide (X1.out.below (below_next hb2 BA.out))
      clear hb2
      have hlt : w.heap.size < (w2.alloc (.cells #[.string (str E.path), .int .i64 E.kind, .int .i64 E.size, .slice x E.chunks.length xc] 40)).heap.size := X2.out.1.lt
      obtain ⟨f0, f1, f2, f3⟩ := F2.out
      go_upto_region 7 with fail
      clear f0 f1 f2 f3
      generalize w2.alloc (.cells #[.string (str E.path), .int .i64 E.kind, .int .i64 E.size, .slice x E.chunks.length xc] 40) = W2 at *
      generalize w2.heap.size = b2 at *
      obtain ⟨f0, f1, f2, f3⟩ := F2.out
      obtain ⟨⟨u0, u1⟩, u2, u3⟩ := X2.out
      obtain ⟨⟨t0, t1⟩, t2, t3⟩ := X2.out.below (below_alloc W2 (.cells #[.string (str E.path), .int .i64 E.kind, .int .i64 E.size, .slice x E.chunks.length xc] 40))
      have XV := hide (boxR_two X2.out (.int .i64 0) (.slice (some ⟨W2.heap.size, 0, none⟩) 1 1))
      have BV := hide ((B2.out.setCell (p := ⟨w.heap.size, 0, none⟩) (Nat.le_refl _) (.int .i64 0)).setCell (p := ⟨w.heap.size, 1, none⟩) (Nat.le_refl _) (.slice (some ⟨W2.heap.size, 0, none⟩) 1 1))
      have hsz : ((W2.setCell ⟨w.heap.size, 0, none⟩ (.int .i64 0)).setCell ⟨w.heap.size, 1, none⟩ (.slice (some ⟨W2.heap.size, 0, none⟩) 1 1)).heap.size = W2.heap.size := by simp [World.setCell]
      have F3 := hide (Four.new ((W2.setCell ⟨w.heap.size, 0, none⟩ (.int .i64 0)).setCell ⟨w.heap.size, 1, none⟩ (.slice (some ⟨W2.heap.size, 0, none⟩) 1 1)) (.string (str E.path)) (.int .i64 E.kind) (.int .i64 E.size) (.slice x E.chunks.length xc) 40)
      rw [hsz] at F3
      obtain ⟨⟨v0, v1⟩, v2, v3⟩ := XV.out.below (below_alloc ((W2.setCell ⟨w.heap.size, 0, none⟩ (.int .i64 0)).setCell ⟨w.heap.size, 1, none⟩ (.slice (some ⟨W2.heap.size, 0, none⟩) 1 1)) (.cells #[.string (str E.path), .int .i64 E.kind, .int .i64 E.size, .slice x E.chunks.length xc] 40))
      have B3 := hide (below_next BV.out (below_alloc ((W2.setCell ⟨w.heap.size, 0, none⟩ (.int .i64 0)).setCell ⟨w.heap.size, 1, none⟩ (.slice (some ⟨W2.heap.size, 0, none⟩) 1 1)) (.cells #[.string (str E.path), .int .i64 E.kind, .int .i64 E.size, .slice x E.chunks.length xc] 40)))
      go_wp2_with fail
      refine bodyPost_ret (v := .agg #[.int .i64 0, .slice (some ⟨W2.heap.size, 0, none⟩) 1 1]) (by simp [results, Tryz.results84, go_sem, v0, v1]) rfl ?_
      rw [HC.out.1, HC.out.2]
      refine ⟨some ⟨W2.heap.size, 0, none⟩, 1, rfl, fun e he => ?_, B3.out⟩
      simp only [List.cons.injEq, and_true] at he
      subst he
      exact ⟨_, rfl, F3.out.lt, F3.out.2.1⟩
  · obtain ⟨hc, -, hv⟩ := plc_bad hz
    have HC := hide (And.intro hc hv)
    clear hc hv
    generalize askL ls p = F at *
    have hz2 : (F != 0) = true := by simp; exact hz
    clear hz
    go_enter Tryz.func84, Tryz.ntmps84
    go_wp2_with fail
    refine HAS.out.mono ?_
    rintro r w1 ⟨rfl, hb1⟩
    have B1 := hide (below_next B0.out hb1)
    obtain ⟨⟨t0, t1⟩, t2, t3⟩ := X0.out.below hb1
    clear hb1
    go_wp2_with fail
    rw [HC.out.1, HC.out.2]
    exact bodyPost_ret (v := .agg #[.int .i64 F, .slice none 0 0]) (by simp [results, Tryz.results84, go_sem, t0, t1]) rfl ⟨none, 0, rfl, fun e he => (by cases he), (B1.out.setCell (p := ⟨w.heap.size, 0, none⟩) (Nat.le_refl _) _).setCell (p := ⟨w.heap.size, 1, none⟩) (Nat.le_refl _) _⟩
end Go.Proofs.YtejipahfodhmjaaGreat

namespace Go.Proofs.YtejipahfodhmjaaGreat
open Go.RowKit Go.Maps
set_option linter.unusedVariables false
attribute [local go_sem ↓] Go.wp_at_zero Go.wp_at_succ

set_option maxRecDepth 100000 in
set_option maxHeartbeats 3200000 in
theorem specLookOver_full (a : Option Addr) (c n : Nat) (ls : List (List En)) (p : Bs) (w : World) (h : RdL w a ls) (hn : n = ls.length) (hl : ls.length ≤ 1048576) (hs : SmallL ls) (hg : ∀ es ∈ ls, layFault es = layFaultP es) (hpl : p.length ≤ 1048576) (E : En) (hc : plcC ls p = 0) (hE : lookL ls p = [E]) :
    Calls Tryz.prog 84 #[.slice a n c, .string (str p)] w fun r w' => ∃ b x xc, r = .returned (.agg #[.int .i64 0, .slice (some ⟨b, 0, none⟩) 1 1]) ∧ Four w' b (.string (str E.path)) (.int .i64 E.kind) (.int .i64 E.size) (.slice x E.chunks.length xc) ∧ Reads .i64 w' x E.chunks ∧ (∀ y, x = some y → w.heap.size < y.block) ∧ Below w.heap.size w w' := by
  subst hn
  have X0 := hide (Box.new w (.int .i64 0) (.slice none 0 0) 37)
  have B0 := hide (below_alloc w (.cells #[.int .i64 0, .slice none 0 0] 37))
  have HR := hide h
  have HAS := hide (l8Asked_any a c ls.length ls p _ (h.below B0.out) rfl hl hs hg hpl)
  have hz := plc_ask hc
  obtain ⟨h4, hRs, hp⟩ := askL_right hz
  rw [hz] at HAS
  have hfd : findE (allE ls) p = some E := by
    obtain ⟨e, he1, he2⟩ := lookL_one hc
    rw [hE] at he2
    rw [he1]
    simpa using he2.symm
  have HLK := hide (fun u (hu : Below w.heap.size w u) => l8Look_yes a c ls.length ls p u (HR.out.below hu) rfl h4 hRs hp hpl E hfd)
  clear h hs hg hz hRs hfd hc hE
  go_enter Tryz.func84, Tryz.ntmps84
  go_wp2_with fail
  refine HAS.out.mono ?_
  rintro r w1 ⟨rfl, hb1⟩
  have B1 := hide (below_next B0.out hb1)
  have X1 := hide (X0.out.below hb1)
  clear hb1
  go_wp2_with fail
  refine (HLK.out w1 B1.out).mono ?_
  rintro r w2 ⟨x, xc, rfl, hox, hb2⟩
  have BA := hide (below_alloc w2 (.cells #[.string (str E.path), .int .i64 E.kind, .int .i64 E.size, .slice x E.chunks.length xc] 40))
  have F2 := hide (Four.new w2 (.string (str E.path)) (.int .i64 E.kind) (.int .i64 E.size) (.slice x E.chunks.length xc) 40)
  have B2 := hide (below_next B1.out (below_next hb2 BA.out))
  have X2 := hide (X1.out.below (below_next hb2 BA.out))
  have hw1 : w.heap.size < w1.heap.size := X1.out.1.lt
  have OX := hide (ownsRow_below hox BA.out)
  clear hb2 hox
  have hlt : w.heap.size < (w2.alloc (.cells #[.string (str E.path), .int .i64 E.kind, .int .i64 E.size, .slice x E.chunks.length xc] 40)).heap.size := X2.out.1.lt
  obtain ⟨f0, f1, f2, f3⟩ := F2.out
  go_upto_region 7 with fail
  clear f0 f1 f2 f3
  generalize w2.alloc (.cells #[.string (str E.path), .int .i64 E.kind, .int .i64 E.size, .slice x E.chunks.length xc] 40) = W2 at *
  generalize w2.heap.size = b2 at *
  obtain ⟨f0, f1, f2, f3⟩ := F2.out
  obtain ⟨⟨u0, u1⟩, u2, u3⟩ := X2.out
  obtain ⟨⟨t0, t1⟩, t2, t3⟩ := X2.out.below (below_alloc W2 (.cells #[.string (str E.path), .int .i64 E.kind, .int .i64 E.size, .slice x E.chunks.length xc] 40))
  have XV := hide (boxR_two X2.out (.int .i64 0) (.slice (some ⟨W2.heap.size, 0, none⟩) 1 1))
  have BV := hide ((B2.out.setCell (p := ⟨w.heap.size, 0, none⟩) (Nat.le_refl _) (.int .i64 0)).setCell (p := ⟨w.heap.size, 1, none⟩) (Nat.le_refl _) (.slice (some ⟨W2.heap.size, 0, none⟩) 1 1))
  have hsz : ((W2.setCell ⟨w.heap.size, 0, none⟩ (.int .i64 0)).setCell ⟨w.heap.size, 1, none⟩ (.slice (some ⟨W2.heap.size, 0, none⟩) 1 1)).heap.size = W2.heap.size := by simp [World.setCell]
  have F3 := hide (Four.new ((W2.setCell ⟨w.heap.size, 0, none⟩ (.int .i64 0)).setCell ⟨w.heap.size, 1, none⟩ (.slice (some ⟨W2.heap.size, 0, none⟩) 1 1)) (.string (str E.path)) (.int .i64 E.kind) (.int .i64 E.size) (.slice x E.chunks.length xc) 40)
  rw [hsz] at F3
  obtain ⟨⟨v0, v1⟩, v2, v3⟩ := XV.out.below (below_alloc ((W2.setCell ⟨w.heap.size, 0, none⟩ (.int .i64 0)).setCell ⟨w.heap.size, 1, none⟩ (.slice (some ⟨W2.heap.size, 0, none⟩) 1 1)) (.cells #[.string (str E.path), .int .i64 E.kind, .int .i64 E.size, .slice x E.chunks.length xc] 40))
  have B3 := hide (below_next BV.out (below_alloc ((W2.setCell ⟨w.heap.size, 0, none⟩ (.int .i64 0)).setCell ⟨w.heap.size, 1, none⟩ (.slice (some ⟨W2.heap.size, 0, none⟩) 1 1)) (.cells #[.string (str E.path), .int .i64 E.kind, .int .i64 E.size, .slice x E.chunks.length xc] 40)))
  go_wp2_with fail

  refine bodyPost_ret (v := .agg #[.int .i64 0, .slice (some ⟨W2.heap.size, 0, none⟩) 1 1]) (by simp [results, Tryz.results84, go_sem, v0, v1]) rfl ?_
  have OW := hide (ownsRow_below (ownsRow_kept (S := fun b => b = w.heap.size) OX.out (Kept.two W2 w.heap.size 0 1 (.int .i64 0) (.slice (some ⟨W2.heap.size, 0, none⟩) 1 1)) (fun b hb e => by have := (OX.out.lt b hb).1; omega)) (below_alloc _ (.cells #[.string (str E.path), .int .i64 E.kind, .int .i64 E.size, .slice x E.chunks.length xc] 40)))
  exact ⟨_, x, xc, rfl, F3.out, ownInts_reads OW.out rfl, fun y hy => by
    have h1 := (OX.out.lt y.block (by rw [hy]; rfl)).1
    omega, B3.out⟩
end Go.Proofs.YtejipahfodhmjaaGreat

namespace Go.Proofs.YtejipahfodhmjaaGreat
open Go.RowKit Go.Maps
set_option linter.unusedVariables false
attribute [local go_sem ↓] Go.wp_at_zero Go.wp_at_succ

def Bx4f (w : World) (b : Nat) (u0 u1 u2 u3 : Value) : Prop := Four w b u0 u1 u2 u3 ∧ w.frozen? ⟨b, 0, none⟩ = false ∧ w.frozen? ⟨b, 1, none⟩ = false ∧ w.frozen? ⟨b, 2, none⟩ = false ∧ w.frozen? ⟨b, 3, none⟩ = false
theorem Bx4f.new (w : World) (u0 u1 u2 u3 : Value) (t : TypeId) : Bx4f (w.alloc (.cells #[u0, u1, u2, u3] t)) w.heap.size u0 u1 u2 u3 := ⟨Four.new w u0 u1 u2 u3 t, by simp, by simp, by simp, by simp⟩
theorem Bx4f.below {w w' : World} {b : Nat} {u0 u1 u2 u3 : Value} (h : Bx4f w b u0 u1 u2 u3) (hk : Below w.heap.size w w') : Bx4f w' b u0 u1 u2 u3 := by
  obtain ⟨h0, f0, f1, f2, f3⟩ := h
  have hb : b < w.heap.size := World.block_lt_of_cell? w ⟨b, 0, none⟩ h0.1
  exact ⟨h0.below hk, (hk.frozen (p := ⟨b, 0, none⟩) hb).trans f0, (hk.frozen (p := ⟨b, 1, none⟩) hb).trans f1, (hk.frozen (p := ⟨b, 2, none⟩) hb).trans f2, (hk.frozen (p := ⟨b, 3, none⟩) hb).trans f3⟩
set_option maxRecDepth 100000 in
set_option maxHeartbeats 3200000 in
theorem l11File_bad (a : Option Addr) (c m : Nat) (ls : List (List En)) (b : Option Addr) (d n : Nat) (D : Nat → Int) (P : Nat → List Int) (p : Bs) (w : World) (h : RdL w a ls) (hm : m = ls.length) (hl : ls.length ≤ 1048576) (hs : SmallL ls) (hg : ∀ es ∈ ls, layFault es = layFaultP es) (hC : RdC w b D P n) (hn : n ≤ 1048576) (hP : ∀ i, i < n → U8 (P i) ∧ (P i).length ≤ 1048576) (hpl : p.length ≤ 1048576) (q : Int) (hq : filC ls D P n p = q) (hz : q ≠ 0) :
    Calls Tryz.prog 35 #[.slice a m c, .slice b n d, .string (str p)] w fun e w' => e = .returned (.tuple #[.agg #[.string ⟨#[]⟩, .int .i64 0, .int .i64 0, .slice none 0 0], .int .i64 q]) ∧ Below w.heap.size w w' := by
  subst hm
  have B0 := hide (below_alloc w (.cells #[.string ⟨#[]⟩, .int .i64 0, .int .i64 0, .slice none 0 0] 40))
  have X0 := hide (Bx4f.new w (.string ⟨#[]⟩) (.int .i64 0) (.int .i64 0) (.slice none 0 0) 40)
  have HLF := hide (l11Asked_ok a c ls.length ls b d n D P _ (h.below B0.out) rfl hl hs hg (hC.below B0.out) hn hP)
  have HLO := hide (fun (u : World) (hu : Below w.heap.size w u) => specLookOver_any a c ls.length ls p u (h.below hu) rfl hl hs hg hpl)
  have HLF2 := hide (fun (E : En) (hc : plcC ls p = 0) (hE : lookL ls p = [E]) (u : World) (hu : Below w.heap.size w u) => specLookOver_full a c ls.length ls p u (h.below hu) rfl hl hs hg hpl E hc hE)
  have hne : (q != 0) = true := by simpa using hz
  have hcs := fil_ne hq hz
  have hKS : ∀ E, lookL ls p = [E] → plcC ls p = 0 → dirK E.kind = true → (E.kind != 1) = true := fun E _ _ hd => by
    have : E.kind = 2 ∨ E.kind = 4 := by simpa [dirK] using hd
    rcases this with h | h <;> rw [h] <;> rfl
  clear h hs hg hC hP hq
  rcases hcs with h1 | ⟨h1, h2⟩ | ⟨h1, h2, h3, e, h4, h5⟩
  · rw [h1] at HLF
    clear h1 HLO HLF2 hz hKS
    go_enter Tryz.func35, Tryz.ntmps35
    go_wp2_with fail
    refine HLF.out.mono ?_
    rintro r w1 ⟨rfl, hb1⟩
    have B9 := hide (below_next B0.out hb1)
    obtain ⟨⟨t0, t1, t2, t3⟩, f0, f1, f2, f3⟩ := X0.out.below hb1
    clear hb1
    go_wp2_with fail
    exact bodyPost_ret (v := .tuple #[.agg #[.string ⟨#[]⟩, .int .i64 0, .int .i64 0, .slice none 0 0], .int .i64 q]) (by simp [results, Tryz.results35, go_sem, t0, t1, t2, t3]) rfl ⟨rfl, (((B9.out.setCell (p := ⟨w.heap.size, 0, none⟩) (Nat.le_refl _) _).setCell (p := ⟨w.heap.size, 1, none⟩) (Nat.le_refl _) _).setCell (p := ⟨w.heap.size, 2, none⟩) (Nat.le_refl _) _).setCell (p := ⟨w.heap.size, 3, none⟩) (Nat.le_refl _) _⟩
  · rw [h1] at HLF
    rw [h2] at HLO
    clear h1 h2 hz HLF2 hKS
    go_enter Tryz.func35, Tryz.ntmps35
    go_wp2_with fail
    refine HLF.out.mono ?_
    rintro r w1 ⟨rfl, hb1⟩
    have B1 := hide (below_next B0.out hb1)
    have X1 := hide (X0.out.below hb1)
    clear hb1 HLF B0 X0
    go_wp2_with fail
    refine (HLO.out w1 B1.out).mono ?_
    rintro r w2 ⟨av, cv, rfl, -, hb2⟩
    generalize (lookL ls p).length = LN at *
    have A2 := hide (below_alloc w2 (.cells #[.int .i64 q, .slice av LN cv] 37))
    have B9 := hide (below_next (below_next B1.out hb2) A2.out)
    have Q2 := hide (Two.new w2 (.int .i64 q) (.slice av LN cv) 37)
    have X2 := hide ((X1.out.below hb2).below A2.out)
    have hlt : w.heap.size < w2.heap.size := Nat.lt_of_lt_of_le (World.block_lt_of_cell? w1 ⟨w.heap.size, 0, none⟩ X1.out.1.1) hb2.size
    have hne1 : ¬ w.heap.size = w2.heap.size := by omega
    have hne2 : ¬ w2.heap.size = w.heap.size := by omega
    clear hb2 A2 X1 B1
    obtain ⟨⟨t0, t1, t2, t3⟩, f0, f1, f2, f3⟩ := X2.out
    obtain ⟨q0, q1⟩ := Q2.out
    go_upto_region 6 with fail
    generalize w2.alloc (.cells #[.int .i64 q, .slice av LN cv] 37) = W2 at *
    go_region
    all_goals
      go_wp2_with fail
      exact bodyPost_ret (v := .tuple #[.agg #[.string ⟨#[]⟩, .int .i64 0, .int .i64 0, .slice none 0 0], .int .i64 q]) (by simp [results, Tryz.results35, go_sem, t0, t1, t2, t3]) rfl ⟨rfl, (((B9.out.drew.setCell (p := ⟨w.heap.size, 0, none⟩) (Nat.le_refl _) _).setCell (p := ⟨w.heap.size, 1, none⟩) (Nat.le_refl _) _).setCell (p := ⟨w.heap.size, 2, none⟩) (Nat.le_refl _) _).setCell (p := ⟨w.heap.size, 3, none⟩) (Nat.le_refl _) _⟩
  · rw [h1] at HLF
    have HLG := hide (HLF2.out e h2 h4)
    have hk1 := hKS e h4 h2 h5
    subst h3
    clear h1 h2 h4 h5 hz HLF2 HLO hKS
    go_enter Tryz.func35, Tryz.ntmps35
    go_wp2_with fail
    refine HLF.out.mono ?_
    rintro r w1 ⟨rfl, hb1⟩
    have B1 := hide (below_next B0.out hb1)
    have X1 := hide (X0.out.below hb1)
    clear hb1 HLF B0 X0
    go_wp2_with fail
    refine (HLG.out w1 B1.out).mono ?_
    rintro r w2 ⟨bb, x, xc, rfl, hF2, -, -, hb2⟩
    have A2 := hide (below_alloc w2 (.cells #[.int .i64 0, .slice (some ⟨bb, 0, none⟩) 1 1] 37))
    have B9 := hide (below_next (below_next B1.out hb2) A2.out)
    have Q2 := hide (Two.new w2 (.int .i64 0) (.slice (some ⟨bb, 0, none⟩) 1 1) 37)
    have X2 := hide ((X1.out.below hb2).below A2.out)
    have F3 := hide (hF2.below A2.out)
    clear hb2 A2 X1 B1 hF2
    obtain ⟨⟨t0, t1, t2, t3⟩, f0, f1, f2, f3⟩ := X2.out
    obtain ⟨q0, q1⟩ := Q2.out
    obtain ⟨z0, z1, z2, z3⟩ := F3.out
    go_wp2_with fail
    exact bodyPost_ret (v := .tuple #[.agg #[.string ⟨#[]⟩, .int .i64 0, .int .i64 0, .slice none 0 0], .int .i64 9]) (by simp [results, Tryz.results35, go_sem, t0, t1, t2, t3]) rfl ⟨rfl, (((B9.out.setCell (p := ⟨w.heap.size, 0, none⟩) (Nat.le_refl _) _).setCell (p := ⟨w.heap.size, 1, none⟩) (Nat.le_refl _) _).setCell (p := ⟨w.heap.size, 2, none⟩) (Nat.le_refl _) _).setCell (p := ⟨w.heap.size, 3, none⟩) (Nat.le_refl _) _⟩
set_option maxRecDepth 100000 in
set_option maxHeartbeats 3200000 in
theorem l11File_ok (a : Option Addr) (c m : Nat) (ls : List (List En)) (b : Option Addr) (d n : Nat) (D : Nat → Int) (P : Nat → List Int) (p : Bs) (w : World) (h : RdL w a ls) (hm : m = ls.length) (hl : ls.length ≤ 1048576) (hs : SmallL ls) (hg : ∀ es ∈ ls, layFault es = layFaultP es) (hC : RdC w b D P n) (hn : n ≤ 1048576) (hP : ∀ i, i < n → U8 (P i) ∧ (P i).length ≤ 1048576) (hpl : p.length ≤ 1048576) (e : En) (hE : FilE ls D P n p e) :
    Calls Tryz.prog 35 #[.slice a m c, .slice b n d, .string (str p)] w fun r w' => ∃ x xc, r = .returned (.tuple #[.agg #[.string (str e.path), .int .i64 e.kind, .int .i64 e.size, .slice x e.chunks.length xc], .int .i64 0]) ∧ Reads .i64 w' x e.chunks ∧ Below w.heap.size w w' := by
  subst hm
  have B0 := hide (below_alloc w (.cells #[.string ⟨#[]⟩, .int .i64 0, .int .i64 0, .slice none 0 0] 40))
  have X0 := hide (Bx4f.new w (.string ⟨#[]⟩) (.int .i64 0) (.int .i64 0) (.slice none 0 0) 40)
  have HLF := hide (l11Asked_ok a c ls.length ls b d n D P _ (h.below B0.out) rfl hl hs hg (hC.below B0.out) hn hP)
  have HLG := hide (fun (u : World) (hu : Below w.heap.size w u) => specLookOver_full a c ls.length ls p u (h.below hu) rfl hl hs hg hpl e hE.plc hE.look)
  rw [lac_zero.2 ⟨hE.lays, hE.flt⟩] at HLF
  have hk1 : (e.kind != 1) = false := by rw [hE.kind]; rfl
  clear h hs hg hC hP hE
  go_enter Tryz.func35, Tryz.ntmps35
  go_wp2_with fail
  refine HLF.out.mono ?_
  rintro r w1 ⟨rfl, hb1⟩
  have B1 := hide (below_next B0.out hb1)
  have X1 := hide (X0.out.below hb1)
  have hw1 : w.heap.size < w1.heap.size := World.block_lt_of_cell? w1 ⟨w.heap.size, 0, none⟩ X1.out.1.1
  clear hb1 HLF B0 X0
  go_wp2_with fail
  refine (HLG.out w1 B1.out).mono ?_
  rintro r w2 ⟨bb, x, xc, rfl, hF2, hr2, hlo2, hb2⟩
  have A2 := hide (below_alloc w2 (.cells #[.int .i64 0, .slice (some ⟨bb, 0, none⟩) 1 1] 37))
  have B9 := hide (below_next (below_next B1.out hb2) A2.out)
  have Q2 := hide (Two.new w2 (.int .i64 0) (.slice (some ⟨bb, 0, none⟩) 1 1) 37)
  have X2 := hide ((X1.out.below hb2).below A2.out)
  have F3 := hide (hF2.below A2.out)
  have R3 := hide (hr2.below A2.out)
  have LO := hide hlo2
  clear hb2 A2 X1 B1 hF2 hr2 hlo2
  obtain ⟨⟨t0, t1, t2, t3⟩, f0, f1, f2, f3⟩ := X2.out
  obtain ⟨q0, q1⟩ := Q2.out
  obtain ⟨z0, z1, z2, z3⟩ := F3.out
  go_wp2_with fail
  refine bodyPost_ret (v := .tuple #[.agg #[.string (str e.path), .int .i64 e.kind, .int .i64 e.size, .slice x e.chunks.length xc], .int .i64 0]) (by simp [results, Tryz.results35, go_sem, t0, t1, t2, t3]) rfl ⟨x, xc, rfl, ?_, (((B9.out.setCell (p := ⟨w.heap.size, 0, none⟩) (Nat.le_refl _) _).setCell (p := ⟨w.heap.size, 1, none⟩) (Nat.le_refl _) _).setCell (p := ⟨w.heap.size, 2, none⟩) (Nat.le_refl _) _).setCell (p := ⟨w.heap.size, 3, none⟩) (Nat.le_refl _) _⟩
  exact R3.out.kept (S := fun b => b = w.heap.size) (Kept.setCell (S := fun b => b = w.heap.size) (p := ⟨w.heap.size, 3, none⟩) (Kept.setCell (S := fun b => b = w.heap.size) (p := ⟨w.heap.size, 2, none⟩) (Kept.two _ _ _ _ _ _) (fun _ => rfl) _) (fun _ => rfl) _) (fun _ y hy e9 => by have := LO.out y hy; omega)
end Go.Proofs.YtejipahfodhmjaaGreat

namespace Go.Proofs.YtejipahfodhmjaaGreat
open Go.RowKit Go.Maps
set_option linter.unusedVariables false
attribute [local go_sem ↓] Go.wp_at_zero Go.wp_at_succ

set_option maxRecDepth 100000 in
set_option maxHeartbeats 1600000 in
theorem specReadOver_bad (a : Option Addr) (c m : Nat) (ls : List (List En)) (b : Option Addr) (d n : Nat) (D : Nat → Int) (P : Nat → List Int) (p : Bs) (w : World) (h : RdL w a ls) (hm : m = ls.length) (hl : ls.length ≤ 1048576) (hs : SmallL ls) (hg : ∀ es ∈ ls, layFault es = layFaultP es) (hC : RdC w b D P n) (hn : n ≤ 1048576) (hP : ∀ i, i < n → U8 (P i) ∧ (P i).length ≤ 1048576) (hpl : p.length ≤ 1048576) (q : Int) (hq : filC ls D P n p = q) (hz : q ≠ 0) :
    Calls Tryz.prog 10 #[.slice a m c, .slice b n d, .string (str p)] w (ResB q [] w) := by
  subst hm
  have X0 := hide (Box.new w (.int .i64 0) (.slice none 0 0) 29)
  have B0 := hide (below_alloc w (.cells #[.int .i64 0, .slice none 0 0] 29))
  have HF := hide (l11File_bad a c ls.length ls b d n D P p _ (h.below B0.out) rfl hl hs hg (hC.below B0.out) hn hP hpl q hq hz)
  have hne : (q != 0) = true := by simpa using hz
  clear h hs hg hC hP hq hz
  go_enter Tryz.func10, Tryz.ntmps10
  go_wp2_with fail
  refine HF.out.mono ?_
  rintro r w1 ⟨rfl, hb1⟩
  have A1 := hide (below_alloc w1 (.cells #[.string ⟨#[]⟩, .int .i64 0, .int .i64 0, .slice none 0 0] 40))
  have B1 := hide (below_next (below_next B0.out hb1) A1.out)
  have X1 := hide ((X0.out.below hb1).below A1.out)
  clear hb1 X0 B0 A1
  obtain ⟨⟨t0, t1⟩, t2, t3⟩ := X1.out
  go_wp2_with fail
  exact bodyPost_ret (v := .agg #[.int .i64 q, .slice none 0 0]) (by simp [results, Tryz.results10, go_sem, t0, t1]) rfl (ResB.no ((B1.out.setCell (Nat.le_refl _) _).setCell (Nat.le_refl _) _))
set_option maxRecDepth 100000 in
set_option maxHeartbeats 3200000 in
theorem specReadOver_ok (a : Option Addr) (c m : Nat) (ls : List (List En)) (b : Option Addr) (d n : Nat) (D : Nat → Int) (P : Nat → List Int) (p : Bs) (w : World) (h : RdL w a ls) (hm : m = ls.length) (hl : ls.length ≤ 1048576) (hs : SmallL ls) (hg : ∀ es ∈ ls, layFault es = layFaultP es) (hC : RdC w b D P n) (hn : n ≤ 1048576) (hP : ∀ i, i < n → U8 (P i) ∧ (P i).length ≤ 1048576) (hpl : p.length ≤ 1048576) (e : En) (hE : FilE ls D P n p e) :
    Calls Tryz.prog 10 #[.slice a m c, .slice b n d, .string (str p)] w (ResB (rdQ D P n e).1 (rdQ D P n e).2 w) := by
  subst hm
  have X0 := hide (Box.new w (.int .i64 0) (.slice none 0 0) 29)
  have B0 := hide (below_alloc w (.cells #[.int .i64 0, .slice none 0 0] 29))
  have HF := hide (l11File_ok a c ls.length ls b d n D P p _ (h.below B0.out) rfl hl hs hg (hC.below B0.out) hn hP hpl e hE)
  have hc3 := entFault_chunks hE.ent
  have hbt := both_right hE.flt hE.ent
  obtain ⟨m, js, hm, hj, hno, hjd⟩ := join_cases D P n e.chunks
  have HQ := hide (show rdQ D P n e = if m = e.chunks.length then (if ((joinTo js m).length : Int) = e.size then (0, joinTo js m) else (6, [])) else (8, []) from by
    unfold rdQ
    rw [hjd]
    by_cases h9 : m = e.chunks.length
    · rw [if_pos h9, if_pos h9]
    · rw [if_neg h9, if_neg h9])
  have HJO := hide (fun (u : World) (hu : Below w.heap.size w u) (x : Option Addr) (xc : Nat) (hr : Reads .i64 u x e.chunks) => specJoin_ok b d n D P x xc e.chunks u (hC.below hu) hn hP hr (by omega) hbt m hm js hj hno)
  generalize rdQ D P n e = Q at *
  clear h hs hg hC hP hE hj hno hjd hbt
  go_enter Tryz.func10, Tryz.ntmps10
  go_wp2_with fail
  refine HF.out.mono ?_
  rintro r w1 ⟨x, xc, rfl, hr1, hb1⟩
  have A1 := hide (below_alloc w1 (.cells #[.string (str e.path), .int .i64 e.kind, .int .i64 e.size, .slice x e.chunks.length xc] 40))
  have F1 := hide (Four.new w1 (.string (str e.path)) (.int .i64 e.kind) (.int .i64 e.size) (.slice x e.chunks.length xc) 40)
  have B1 := hide (below_next (below_next B0.out hb1) A1.out)
  have X1 := hide ((X0.out.below hb1).below A1.out)
  have R1 := hide (hr1.below A1.out)
  have hwl : w.heap.size < w1.heap.size := Nat.lt_of_lt_of_le (X0.out.1.lt) hb1.size
  clear hb1 X0 B0 A1 hr1 HF
  obtain ⟨t0, t1, t2, t3⟩ := F1.out
  have HJN := hide (HJO.out _ B1.out x xc R1.out)
  by_cases hme : m = e.chunks.length
  · rw [if_pos hme] at HQ
    rw [if_pos hme, if_pos hme] at HJN
    generalize joinTo js m = bs at *
    clear hme HJO
    go_wp2_with fail
    clear t0 t1 t2 t3
    generalize w1.alloc (.cells #[.string (str e.path), .int .i64 e.kind, .int .i64 e.size, .slice x e.chunks.length xc] 40) = W1 at *
    obtain ⟨eb, heb⟩ : ∃ eb, eb = w1.heap.size := ⟨_, rfl⟩
    rw [← heb] at F1 ⊢
    have hW1 : w.heap.size < W1.heap.size := X1.out.1.lt
    clear heb
    refine HJN.out.mono ?_
    rintro r w2 ⟨ga, gc, rfl, hg2, hb2⟩
    have A2 := hide (below_alloc w2 (.cells #[.int .i64 0, .slice ga bs.length gc] 29))
    have Y2 := hide (Two.new w2 (.int .i64 0) (.slice ga bs.length gc) 29)
    have B2 := hide (below_next (below_next B1.out hb2) A2.out)
    have X2 := hide ((X1.out.below hb2).below A2.out)
    have F2 := hide ((F1.out.below hb2).below A2.out)
    have O2 := hide (ownsRow_below hg2.1 A2.out)
    have hw2 : w.heap.size < w2.heap.size := by have := hb2.size; omega
    have hn1 : ¬ w.heap.size = w2.heap.size := by omega
    have hn2 : ¬ w2.heap.size = w.heap.size := by omega
    clear hg2 hb2 A2 X1 F1 B1 HJN
    obtain ⟨t0, t1, t2, t3⟩ := F2.out
    obtain ⟨⟨s0, s1⟩, s2, s3⟩ := X2.out
    obtain ⟨y0, y1⟩ := Y2.out
    go_upto_region 5 with fail
    generalize w2.alloc (.cells #[.int .i64 0, .slice ga bs.length gc] 29) = W2 at *
    obtain ⟨yb, hyb⟩ : ∃ yb, yb = w2.heap.size := ⟨_, rfl⟩
    rw [← hyb] at y0 y1 hn1 hn2 ⊢
    clear hyb
    by_cases hsz : (bs.length : Int) = e.size
    · rw [if_pos hsz] at HQ
      have hsb : ((bs.length : Int) != e.size) = false := by simpa using hsz
      clear hsz
      go_wp2_with fail
      rw [HQ.out]
      exact bodyPost_ret (v := .agg #[.int .i64 0, .slice ga bs.length gc]) (by simp [results, Tryz.results10, go_sem, s0, s1]) rfl (ResB.of hW1 (Nat.le_refl _) rfl O2.out B2.out)
    · rw [if_neg hsz] at HQ
      have hsb : ((bs.length : Int) != e.size) = true := by simpa using hsz
      clear hsz
      go_wp2_with fail
      rw [HQ.out]
      exact bodyPost_ret (v := .agg #[.int .i64 6, .slice none 0 0]) (by simp [results, Tryz.results10, go_sem, s0, s1]) rfl (ResB.no ((B2.out.setCell (Nat.le_refl _) _).setCell (Nat.le_refl _) _))
  · rw [if_neg hme] at HQ
    rw [if_neg hme, if_neg hme] at HJN
    clear hme HJO
    go_wp2_with fail
    clear t0 t1 t2 t3
    generalize w1.alloc (.cells #[.string (str e.path), .int .i64 e.kind, .int .i64 e.size, .slice x e.chunks.length xc] 40) = W1 at *
    obtain ⟨eb, heb⟩ : ∃ eb, eb = w1.heap.size := ⟨_, rfl⟩
    rw [← heb] at F1 ⊢
    have hW1 : w.heap.size < W1.heap.size := X1.out.1.lt
    clear heb
    refine HJN.out.mono ?_
    rintro r w2 ⟨ga, gc, rfl, hg2, hb2⟩
    have A2 := hide (below_alloc w2 (.cells #[.int .i64 8, .slice ga 0 gc] 29))
    have Y2 := hide (Two.new w2 (.int .i64 8) (.slice ga 0 gc) 29)
    have B2 := hide (below_next (below_next B1.out hb2) A2.out)
    have X2 := hide ((X1.out.below hb2).below A2.out)
    have F2 := hide ((F1.out.below hb2).below A2.out)
    have O2 := hide (ownsRow_below hg2.1 A2.out)
    have hw2 : w.heap.size < w2.heap.size := by have := hb2.size; omega
    have hn1 : ¬ w.heap.size = w2.heap.size := by omega
    have hn2 : ¬ w2.heap.size = w.heap.size := by omega
    clear hg2 hb2 A2 X1 F1 B1 HJN
    obtain ⟨t0, t1, t2, t3⟩ := F2.out
    obtain ⟨⟨s0, s1⟩, s2, s3⟩ := X2.out
    obtain ⟨y0, y1⟩ := Y2.out
    go_upto_region 5 with fail
    generalize w2.alloc (.cells #[.int .i64 8, .slice ga 0 gc] 29) = W2 at *
    obtain ⟨yb, hyb⟩ : ∃ yb, yb = w2.heap.size := ⟨_, rfl⟩
    rw [← hyb] at y0 y1 hn1 hn2 ⊢
    clear hyb
    go_wp2_with fail
    rw [HQ.out]
    exact bodyPost_ret (v := .agg #[.int .i64 8, .slice ga 0 gc]) (by simp [results, Tryz.results10, go_sem, s0, s1]) rfl (ResB.of (zs := []) hW1 (Nat.le_refl _) rfl O2.out B2.out)
end Go.Proofs.YtejipahfodhmjaaGreat

namespace Go.Proofs.YtejipahfodhmjaaGreat
open Go.RowKit Go.Maps
set_option linter.unusedVariables false

theorem convO {w : World} {base : Nat} {a : Option Addr} {c : Nat} {ds : List Int} (h : w.ownsRow base 5 1 (.slice a ds.length c) ds.length (ds.map (Value.int .u8))) :
    Sem.run Tryz.prog (convert 22 9 (.slice a ds.length c)) w = .ok (.string (strOfNums ds)) w := by
  rcases h.2 with ⟨h', h0⟩ | ⟨g, cap, cur, h', hb, hh, hnc, hcm, hcs, htake⟩
  · simp only [Value.slice.injEq] at h'
    obtain ⟨rfl, _, rfl⟩ := h'
    have e : ds = [] := List.eq_nil_of_length_eq_zero h0
    subst e
    exact run_convert_bytes_nil (P := Tryz.prog) w 22 5 Tryz.underlying22 Tryz.underlying5 0 0 9 Tryz.underlying9
  · simp only [Value.slice.injEq, true_and] at h'
    obtain ⟨rfl, rfl⟩ := h'
    exact run_convert_bytes_arg (P := Tryz.prog) w 22 5 Tryz.underlying22 Tryz.underlying5 g 0 ds.length c ds rfl (fun i hi => by rw [Nat.zero_add, h.cellAt i (by omega)]; simp [List.getD_eq_getElem?_getD, hi]) 9 Tryz.underlying9
end Go.Proofs.YtejipahfodhmjaaGreat

