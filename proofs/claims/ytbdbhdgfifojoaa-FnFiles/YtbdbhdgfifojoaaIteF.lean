/-
  The program's FileEntry.
-/
import Derived.Test.YtbdbhdgfifojoaaIteD
import Derived.Test.YtbdbhdgfifojoaaEntJ
namespace Go.Proofs.Ytbdbhdgfifojoaa
open Go.RowKit Go.Maps
set_option linter.unusedVariables false
attribute [local go_sem ↓] Go.wp_at_zero Go.wp_at_succ

set_option maxRecDepth 100000 in
set_option maxHeartbeats 1600000 in
theorem implFileEntry_any (p : Bs) (a : Option Addr) (cap n : Nat) (zs : List Int) (w : World) (h : Reads .u8 w a zs) (hn : n = zs.length) (hu : U8 zs) (hcap : zs.length ≤ cap) (hp : p.length ≤ 1048576) (hzl : zs.length ≤ 1048576) :
    Calls Try.prog 43 #[.string (str p), .slice a n cap] w (ResE (fileCode p zs) (fileList p zs) w) := by
  subst hn
  have HQ := hide (fun u => implPathFault_any (str p) u (by rw [str_size]; omega))
  have HA := hide h
  have HU := hide hu
  clear h hu
  have X0 := hide (Box.new w (.int .i64 0) (.slice none 0 0) 72)
  have B0 := hide (below_alloc w (.cells #[.int .i64 0, .slice none 0 0] 72))
  go_enter Try.func43, Try.ntmps43
  go_wp2_with fail
  refine (HQ.out _).mono ?_
  rintro r w1 ⟨rfl, hb1⟩
  rw [str_data]
  have B1 := hide (below_next B0.out hb1)
  have X1 := hide (X0.out.below hb1)
  clear hb1 X0 B0
  by_cases hz : faultP p = 0
  · rw [hz]
    by_cases hl : 24 < zs.length
    · have HR := hide (show fileCode p zs = 2 ∧ fileList p zs = [] from by
        have : fileCode p zs = 2 := by simp [fileCode, hz, hl]
        exact ⟨this, by simp [fileList, this]⟩)
      clear hz
      go_wp2_with fail
      refine (implDigestsOf_no a cap zs _ hl hzl).mono ?_
      rintro r w2 ⟨rfl, hb2⟩
      obtain ⟨⟨t0, t1⟩, t2, t3⟩ := (X1.out.below hb2).below (below_alloc w2 (.cells #[.int .i64 2, .slice none 0 0] 31))
      have B2 := hide (below_next (below_next B1.out hb2) (below_alloc w2 (.cells #[.int .i64 2, .slice none 0 0] 31)))
      clear hb2
      go_wp2_with fail
      exact bodyPost_ret (v := .agg #[.int .i64 2, .slice none 0 0]) (by simp [results, Try.results43, go_sem, t0, t1]) rfl (by rw [HR.out.1, HR.out.2]; exact ResE.bad (Nat.le_refl _) B2.out)
    · have HR := hide (show fileCode p zs = 0 ∧ fileList p zs = [fileE p zs] from by
        have : fileCode p zs = 0 := by simp [fileCode, hz, hl]
        exact ⟨this, by simp [fileList, this]⟩)
      clear hz
      go_wp2_with fail
      refine (implDigestsOf_ok a cap zs _ (HA.out.below B1.out) HU.out hcap (by omega)).mono ?_
      rintro r w2 ⟨v, rfl, ho, hb2⟩
      obtain ⟨av, cv, rfl⟩ := ownsRow_shape ho
      have hls := digs_len zs
      have RD := hide (ownInts_reads (zs := digs zs (cut zs).length) ho hls.symm)
      have hls2 : (fileE p zs).chunks.length = (cut zs).length := hls
      have hlt0 := X1.out.1.lt
      have Y1 := hide (((X1.out.below hb2).below (below_alloc w2 (.cells #[.int .i64 0, .slice av (cut zs).length cv] 31))).below (below_alloc _ (.cells #[.int .i64 zs.length, .slice av (cut zs).length cv] 120)))
      have B2 := hide (below_next (below_next B1.out hb2) (below_next (below_alloc w2 (.cells #[.int .i64 0, .slice av (cut zs).length cv] 31)) (below_alloc _ (.cells #[.int .i64 zs.length, .slice av (cut zs).length cv] 120))))
      have RD2 := hide (RD.out.below (below_next (below_alloc w2 (.cells #[.int .i64 0, .slice av (cut zs).length cv] 31)) (below_alloc _ (.cells #[.int .i64 zs.length, .slice av (cut zs).length cv] 120))))
      have hs2 := hb2.size
      clear ho hb2 X1 RD
      go_wp2_with fail
      have hsz : (((w2.alloc (.cells #[.int .i64 0, .slice av (cut zs).length cv] 31))).alloc (.cells #[.int .i64 zs.length, .slice av (cut zs).length cv] 120)).heap.size = w2.heap.size + 1 + 1 := by simp
      generalize (w2.alloc (.cells #[.int .i64 0, .slice av (cut zs).length cv] 31)).alloc (.cells #[.int .i64 zs.length, .slice av (cut zs).length cv] 120) = W at *
      have RI := hide (RdI.fresh (e := fileE p zs) (c := cv) (t := 123) RD2.out)
      rw [hsz, hls2] at RI
      have BW := hide (below_alloc W (.cells #[.int .i64 zs.length, .slice av (cut zs).length cv, .string (str p), .int .i64 1] 123))
      obtain ⟨W3, hW3⟩ : ∃ W3, W3 = W.alloc (.cells #[.int .i64 zs.length, .slice av (cut zs).length cv, .string (str p), .int .i64 1] 123) := ⟨_, rfl⟩
      rw [← hW3] at BW ⊢
      have RI3 : Hid (RdI W3 (some ⟨w2.heap.size + 1 + 1, 0, none⟩) [fileE p zs]) := hide (by rw [hW3]; exact RI.out)
      have hcl : (cut zs).length ≤ 1048576 := by have := cut_length zs; omega
      clear RI hW3 hsz
      refine (entriesOf_any _ _ 1 [fileE p zs] _ RI3.out rfl (by simp) (fun e he => by simp only [List.mem_singleton] at he; subst he; exact ⟨hp, by rw [hls2]; exact hcl⟩)).mono ?_
      rintro r w5 ⟨av5, cv5, rfl, hG5, hb5⟩
      obtain ⟨⟨t0, t1⟩, t2, t3⟩ := (Y1.out.below BW.out).below hb5
      have G5 := hide hG5
      have B5 := hide (below_next (below_next B2.out BW.out) hb5)
      have hs3 := BW.out.size
      have hs4 := Y1.out.1.lt
      clear hG5 hb5
      go_wp2_with fail
      exact bodyPost_ret (v := .agg #[.int .i64 0, .slice av5 1 cv5]) (by simp [results, Try.results43, go_sem, t0, t1]) rfl (by rw [HR.out.1, HR.out.2]; exact ResE.of (w2 := w1) (by omega) (Nat.le_refl _) rfl G5.out B5.out)
  · have HR := hide (show fileCode p zs = faultP p ∧ fileList p zs = [] from by
      have : fileCode p zs = faultP p := by simp [fileCode, hz]
      exact ⟨this, by simp [fileList, this, hz]⟩)
    generalize faultP p = F at *
    have hz2 : (F != 0) = true := by simp; exact hz
    clear hz
    obtain ⟨⟨t0, t1⟩, t2, t3⟩ := X1.out
    go_wp2_with fail
    exact bodyPost_ret (v := .agg #[.int .i64 F, .slice none 0 0]) (by simp [results, Try.results43, go_sem, t0, t1]) rfl (by rw [HR.out.1, HR.out.2]; exact ResE.bad (Nat.le_refl _) B1.out)

end Go.Proofs.Ytbdbhdgfifojoaa
