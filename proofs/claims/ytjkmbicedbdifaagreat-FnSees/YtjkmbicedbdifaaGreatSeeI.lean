/-
  The program's LookOver.
-/
import Derived.Test.YtjkmbicedbdifaaGreatJ3
import Derived.Test.YtjkmbicedbdifaaGreatJ2
namespace Go.Proofs.YtjkmbicedbdifaaGreat
open Go.RowKit Go.Maps
set_option linter.unusedVariables false
attribute [local go_sem ↓] Go.wp_at_zero Go.wp_at_succ

theorem asT_chunks (e : En) : (asT e).chunks = e.chunks := by unfold asT; split <;> rfl

set_option maxRecDepth 100000 in
set_option maxHeartbeats 3200000 in
theorem implLookOver_any (a : Option Addr) (c n : Nat) (ls : List (List En)) (p : Bs) (w : World) (h : RdL w a ls) (hn : n = ls.length) (hl : ls.length ≤ 1048576) (hs : SmallL ls) (hp : p.length ≤ 1048576) :
    Calls Tryz.prog 12 #[.slice a n c, .string (str p)] w (ResE (plcC ls p) (lookL ls p) w) := by
  subst hn
  have X0 := hide (Box.new w (.int .i64 0) (.slice none 0 0) 36)
  have B0 := hide (below_alloc w (.cells #[.int .i64 0, .slice none 0 0] 36))
  have HR := hide h
  have HSL := hide hs
  have HAs := hide (implAskL_any a c ls.length ls p _ (h.below B0.out) rfl hl hs hp)
  clear h hs
  by_cases hz : askL ls p = 0
  · obtain ⟨h4, hRs, hpf⟩ := askL_right hz
    rw [hz] at HAs
    have HRs := hide (rights_sight hRs HSL.out)
    go_enter Tryz.func12, Tryz.ntmps12
    go_wp2_with fail
    refine HAs.out.mono ?_
    rintro r w1 ⟨rfl, hb1⟩
    have B1 := hide (below_next B0.out hb1)
    have X1 := hide (X0.out.below hb1)
    clear hb1 X0 B0 HAs
    go_wp2_with fail
    refine (sightOf_any a c ls.length ls w1 (HR.out.below B1.out) rfl h4 HRs.out).mono ?_
    rintro r w2 ⟨b, N, rfl, hbb, hN, hM, hb2⟩
    have HM := hide hM
    have BB2 := hide hb2
    have B2 := hide (below_next B1.out hb2)
    have X2 := hide (X1.out.below hb2)
    have HSA := hide (seenAt_any b N p (seeL ls) w1 w2 hM hp)
    clear hM hb2
    unfold ResW at HSA
    cases hsn : seenG (seeL ls) p 4 with
    | none =>
      have HC := hide (plc_none hz hsn)
      rw [hsn] at HSA
      clear hz hsn hRs hpf
      go_wp2_with fail
      refine HSA.out.mono ?_
      rintro r w3 ⟨⟨v, s, rfl⟩, hb3⟩
      have B3 := hide (below_next (below_next B2.out hb3) (below_alloc w3 (.cells #[.int .i64 v, .string s] 73)))
      obtain ⟨⟨t0, t1⟩, t2, t3⟩ := X2.out.below (below_next hb3 (below_alloc w3 (.cells #[.int .i64 v, .string s] 73)))
      clear hb3
      go_wp2_with fail
      exact bodyPost_ret (v := .agg #[.int .i64 4, .slice none 0 0]) (by simp [results, Tryz.results12, go_sem, t0, t1]) rfl (by rw [HC.out.1, HC.out.2.2]; exact ResE.bad (Nat.le_refl _) B3.out)
    | some k =>
      obtain ⟨hk4, e, he, -⟩ := seen_some hsn
      have HC := hide (plc_some hz hsn he)
      rw [hsn] at HSA
      obtain ⟨es, hes, hee, -⟩ := seeL_mem he
      have hkk := ent_kinds ((hRs es hes).ent e hee)
      have hsm := (HSL.out es hes).2 e hee
      clear hz hsn hRs hpf hes hee
      go_wp2_with fail
      refine HSA.out.mono ?_
      rintro r w3 ⟨rfl, hb3⟩
      have BA := hide (below_alloc w3 (.cells #[.int .i64 k, .string (str p)] 73))
      have B3 := hide (below_next (below_next B2.out hb3) BA.out)
      have X3 := hide (X2.out.below (below_next hb3 BA.out))
      have BB3 := hide (below_next (below_next BB2.out hb3) BA.out)
      obtain ⟨x, cc, -, hlk, hrd⟩ := ((HM.out.below hb3).below BA.out).yes (by omega : k ≤ 100) hp he
      have HL := hide hlk
      have HRc := hide (hrd.below BB3.out)
      have Y3 := hide (Box.new w3 (.int .i64 k) (.string (str p)) 73)
      unfold spotV
      clear hb3 hlk hrd he HM HSA X2 B2 BB2 BA
      obtain ⟨⟨y0, y1⟩, y2, y3⟩ := Y3.out
      unfold spotV at HL
      go_wp2_with (at_lookup; refine wpList_lookS rfl _ _ 57 false rfl _ _ _ rfl rfl HL.out ?_)
      refine (ofTree_any e x cc _ hkk).mono ?_
      rintro r w4 ⟨rfl, hb4⟩
      have B4 := hide (below_next B3.out hb4)
      have X4 := hide (X3.out.below hb4)
      have BA5 := hide (below_alloc w4 (.cells #[.int .i64 (asT e).size, .slice x (asT e).chunks.length cc, .string (str (asT e).path), .int .i64 (asT e).kind] 64))
      have HR4 := hide (show Reads .i64 w4 x (asT e).chunks by rw [asT_chunks]; exact HRc.out.below hb4)
      have RI5 := hide (RdI.fresh (e := asT e) (c := cc) (t := 64) HR4.out)
      have hsm2 : (asT e).path.length ≤ 1048576 ∧ (asT e).chunks.length ≤ 1048576 := by rw [asT_path, asT_chunks]; exact hsm
      have B5 := hide (below_next B4.out BA5.out)
      have X5 := hide (X4.out.below BA5.out)
      have hs4 := B4.out.size
      have hlt5 : w.heap.size < (w4.alloc (.cells #[.int .i64 (asT e).size, .slice x (asT e).chunks.length cc, .string (str (asT e).path), .int .i64 (asT e).kind] 64)).heap.size := X5.out.1.lt
      clear hb4 y0 y1 y2 y3 Y3 HL HRc HR4 X3 B3 BB3 X4 BA5
      unfold itV
      generalize asT e = E at *
      go_wp2_with fail
      generalize w4.alloc (.cells #[.int .i64 E.size, .slice x E.chunks.length cc, .string (str E.path), .int .i64 E.kind] 64) = W5 at *
      refine (entriesOf_any _ _ 1 [E] _ RI5.out rfl (by simp) (fun y hy => by simp only [List.mem_singleton] at hy; subst hy; exact hsm2)).mono ?_
      rintro r w7 ⟨av7, cv7, rfl, hG7, hb7⟩
      obtain ⟨⟨t0, t1⟩, t2, t3⟩ := X5.out.below hb7
      have G7 := hide hG7
      have B7 := hide (below_next B5.out hb7)
      clear hG7 hb7
      go_wp2_with fail
      exact bodyPost_ret (v := .agg #[.int .i64 0, .slice av7 1 cv7]) (by simp [results, Tryz.results12, go_sem, t0, t1]) rfl (by rw [HC.out.1, HC.out.2.2]; exact ResE.of (w2 := w1) hlt5 (Nat.le_refl _) rfl G7.out B7.out)
  · have HC := hide (plc_bad hz)
    generalize askL ls p = F at *
    have hz2 : (F != 0) = true := by simp; exact hz
    clear hz
    go_enter Tryz.func12, Tryz.ntmps12
    go_wp2_with fail
    refine HAs.out.mono ?_
    rintro r w1 ⟨rfl, hb1⟩
    have B1 := hide (below_next B0.out hb1)
    obtain ⟨⟨t0, t1⟩, t2, t3⟩ := X0.out.below hb1
    clear hb1
    go_wp2_with fail
    exact bodyPost_ret (v := .agg #[.int .i64 F, .slice none 0 0]) (by simp [results, Tryz.results12, go_sem, t0, t1]) rfl (by rw [HC.out.1, HC.out.2.2]; exact ResE.bad (Nat.le_refl _) B1.out)
end Go.Proofs.YtjkmbicedbdifaaGreat
