/-
  The program's ParseLayer: what cannot be read is a panic that is recovered.
-/
import Derived.Test.YtlbccbikepkfiaaGreatDoorRdL
import Derived.Test.YtlbccbikepkfiaaGreatDoorTreT
import Derived.Test.YtlbccbikepkfiaaGreatDoorJ2
import Derived.Laws.BytesArg
namespace Go.Proofs.YtlbccbikepkfiaaGreatDoor
open Go.RowKit
set_option linter.unusedVariables false
set_option maxRecDepth 100000

/-- Bytes in memory, their place known. -/
def RdB (w : World) (a : Option Addr) (zs : List Int) : Prop :=
  (a = none ∧ zs = []) ∨ ∃ b off, a = some ⟨b, off, none⟩ ∧ (zs ≠ [] → b < w.heap.size) ∧ ∀ i, i < zs.length → w.cell? ⟨b, off + i, none⟩ = some (.int .u8 (zs.getD i 0))
theorem RdB.below {w w' : World} {a : Option Addr} {zs : List Int} (h : RdB w a zs) (hb : Below w.heap.size w w') : RdB w' a zs := by
  rcases h with h | ⟨b, off, h1, h2, h3⟩
  · exact Or.inl h
  · refine Or.inr ⟨b, off, h1, fun hz => Nat.lt_of_lt_of_le (h2 hz) hb.size, fun i hi => ?_⟩
    exact (hb.cell (p := ⟨b, off + i, none⟩) (h2 (by intro e; simp [e] at hi))).trans (h3 i hi)
/-- The text of bytes. -/
def textB (zs : List Int) : Bs := zs.map fun n => UInt8.ofNat n.toNat
theorem textB_len (zs : List Int) : (textB zs).length = zs.length := by simp [textB]
theorem strB (zs : List Int) : strOfNums zs = str (textB zs) := rfl
theorem conv_any {w : World} {a : Option Addr} {zs : List Int} (h : RdB w a zs) (c : Nat) : Sem.run Tryz.prog (convert 22 9 (.slice a zs.length c)) w = .ok (.string (str (textB zs))) w := by
  rw [← strB]
  rcases h with ⟨rfl, rfl⟩ | ⟨b, off, rfl, h2, h3⟩
  · exact run_convert_bytes_nil (P := Tryz.prog) w 22 5 Tryz.underlying22 Tryz.underlying5 0 c 9 Tryz.underlying9
  · exact run_convert_bytes_arg (P := Tryz.prog) w 22 5 Tryz.underlying22 Tryz.underlying5 b off zs.length c zs rfl h3 9 Tryz.underlying9

/-- What layerText tells. -/
def layText (es : List En) : Bs := if layFaultP es = 0 then linesB es else []
set_option maxHeartbeats 1600000 in
theorem layerText_any (a : Option Addr) (c n : Nat) (es : List En) (w : World) (h : RdE w a es) (hn : n = es.length) (hl : es.length ≤ 1048576) (hs : SmallE es) :
    Calls Tryz.prog 23 #[.slice a n c] w fun r w' => r = .returned (.agg #[.int .i64 (layFaultP es), .string (str (layText es))]) ∧ Below w.heap.size w w' := by
  subst hn
  have X0 := hide (Box.new w (.int .i64 0) (.string ⟨#[]⟩) 35)
  have B0 := hide (below_alloc w (.cells #[.int .i64 0, .string ⟨#[]⟩] 35))
  have HR := hide h
  have HS := hide hs
  clear h hs
  go_enter Tryz.func23, Tryz.ntmps23
  go_wp2_with fail
  refine (implLayerFault_any a c es.length es _ (HR.out.below B0.out) rfl hl HS.out).mono ?_
  rintro r w1 ⟨rfl, hb1⟩
  have B1 := hide (below_next B0.out hb1)
  have X1 := hide (X0.out.below hb1)
  clear hb1 X0 B0
  by_cases hz : layFaultP es = 0
  · have HZ := hide (show layText es = linesB es ∧ layFaultP es = 0 from ⟨by simp [layText, hz], hz⟩)
    rw [hz]
    clear hz
    go_wp2_with fail
    refine (linesText_any a c es.length es _ (HR.out.below B1.out) rfl hl HS.out).mono ?_
    rintro r w2 ⟨rfl, hb2⟩
    obtain ⟨⟨t0, t1⟩, t2, t3⟩ := X1.out.below hb2
    have B2 := hide (below_next B1.out hb2)
    clear hb2
    go_wp2_with fail
    exact bodyPost_ret (v := .agg #[.int .i64 0, .string (str (linesB es))]) (by simp [results, Tryz.results23, go_sem, t0, t1]) rfl ⟨by rw [HZ.out.1, HZ.out.2], (B2.out.setCell (p := ⟨w.heap.size, 0, none⟩) (Nat.le_refl _) _).setCell (p := ⟨w.heap.size, 1, none⟩) (Nat.le_refl _) _⟩
  · have HZ := hide (show layText es = [] by simp [layText, hz])
    obtain ⟨F, hF⟩ : ∃ F, F = layFaultP es := ⟨_, rfl⟩
    rw [← hF] at hz ⊢
    have HF := hide hF
    clear hF
    have hz2 : (F != 0) = true := by simp; exact hz
    clear hz
    obtain ⟨⟨t0, t1⟩, t2, t3⟩ := X1.out
    go_wp2_with fail
    exact bodyPost_ret (v := .agg #[.int .i64 F, .string ⟨#[]⟩]) (by simp [results, Tryz.results23, go_sem, t0, t1]) rfl ⟨by rw [HZ.out, ← HF.out]; rfl, (B1.out.setCell (p := ⟨w.heap.size, 0, none⟩) (Nat.le_refl _) _).setCell (p := ⟨w.heap.size, 1, none⟩) (Nat.le_refl _) _⟩
theorem layText_good {es : List En} (h : layFaultP es = 0) : layText es = packL es := by
  unfold layText
  rw [if_pos h]
  unfold linesB packL
  congr 1
  refine List.map_congr_left (fun e he => ?_)
  rw [entText_good ((right_P.1 h).ent e he)]
theorem readL_small {t : Bs} {es : List En} (h : readL t = some es) (hl : t.length ≤ 600) : SmallE es ∧ es.length ≤ 601 := by
  refine ⟨fun e he => ?_, ?_⟩
  · obtain ⟨l, hl1, hl2⟩ := mapM_mem h e he
    have h1 := cutC_each (m := 10) t l (linesP_mem _ l hl1)
    have h2 := readE_len hl2
    omega
  · have h1 := mapM_len' h
    have h2 := linesP_len (cutC 10 t)
    have h3 := cutC_length (m := 10) t
    omega
theorem catchL_panicking (b : Nat) (u0 u1 : Value) (u : TypeId) (vp : Value) (older : List PanicEntry) (w : World) (hx : Box w b u0 u1) :
    CallsD Tryz.prog 20 #[.pointer (some ⟨b, 0, none⟩)] (.panicking ({ v := .iface u vp, recovered := false } :: older)) w fun e u' w' =>
      e = .returned (.tuple #[]) ∧ u' = .panicking ({ v := .iface u vp, recovered := true } :: older) ∧ w' = (w.setCell ⟨b, 0, none⟩ (.int .i64 5)).setCell ⟨b, 1, none⟩ (.slice none 0 0) := by
  obtain ⟨⟨t0, t1⟩, z0, z1⟩ := hx
  refine callsD_of_wpS Tryz.func20 rfl fun c₀ cs hu => ?_
  apply wpS_seq
  apply wpS_region
  simp [wpOpsS, go_sem, recoverD, hu, Tryz.ntmps20, Exit.thenS]
  refine wpS_cond (t := true) (by simp [Act.eval, Array.replicate]) ?_
  simp only [if_true]
  apply wpS_region
  simp [wpOpsS, go_sem, t0, t1, z0, z1, bodyPostS, results, Tryz.results20]
theorem catchL_idle (p : Addr) (w : World) :
    CallsD Tryz.prog 20 #[.pointer (some p)] .returning w fun e u' w' => e = .returned (.tuple #[]) ∧ u' = .returning ∧ w' = w := by
  refine callsD_of_wpS Tryz.func20 rfl fun c₀ cs hu => ?_
  apply wpS_seq
  apply wpS_region
  simp [wpOpsS, go_sem, recoverD, hu, Tryz.ntmps20, Exit.thenS]
  refine wpS_cond (t := false) (by simp [Act.eval, Array.replicate]) ?_
  simp only [Bool.false_eq_true, if_false]
  refine wpS_of_wp (wp_skip ?_)
  cases c₀
  simp_all [bodyPostS, results, Tryz.results20]
end Go.Proofs.YtlbccbikepkfiaaGreatDoor
