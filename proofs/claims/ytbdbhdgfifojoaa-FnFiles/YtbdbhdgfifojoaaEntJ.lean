/-
  The model's FileEntry.
-/
import Derived.Test.YtbdbhdgfifojoaaEntI
namespace Go.Proofs.Ytbdbhdgfifojoaa
open Go.RowKit Go.Maps
set_option linter.unusedVariables false

/-- What FileEntry answers. -/
def fileCode (p : Bs) (zs : List Int) : Int := if faultP p = 0 then (if 24 < zs.length then 2 else 0) else faultP p
def fileList (p : Bs) (zs : List Int) : List En := if fileCode p zs = 0 then [fileE p zs] else []

theorem GE.one {w w1 : World} {e : En} {av : Option Addr} {cv : Nat} (hb : Below w.heap.size w w1) (h : w1.ownsRow w.heap.size 2 1 (.slice av e.chunks.length cv) e.chunks.length (e.chunks.map (Value.int .i64))) :
    GE w.heap.size (w1.alloc (.cells #[.string (str e.path), .int .i64 e.kind, .int .i64 e.size, .slice av e.chunks.length cv] 75)).heap.size (w1.alloc (.cells #[.string (str e.path), .int .i64 e.kind, .int .i64 e.size, .slice av e.chunks.length cv] 75)) (.slice (some ⟨w1.heap.size, 0, none⟩) 1 1) [e] := by
  have hs := hb.size
  refine ⟨[⟨e, av, cv⟩], rfl, ?_, fun r hr => ?_, List.pairwise_singleton _ _, fun r hr g hg => ?_, fun b hb => ?_⟩
  · exact ⟨rfl, .inr ⟨w1.heap.size, 1, #[.string (str e.path), .int .i64 e.kind, .int .i64 e.size, .slice av e.chunks.length cv], rfl, hs, heap_alloc_new w1 _, Nat.le_refl _, by decide, rfl, rfl⟩⟩
  · simp only [List.mem_singleton] at hr
    subst hr
    exact ownsRow_below h (below_alloc _ _)
  · simp only [List.mem_singleton] at hr
    subst hr
    have := (h.lt g (block_own hg)).2
    simp
    omega
  · simp [Value.ownBlock] at hb
    subst hb
    simp

set_option maxRecDepth 100000 in
set_option maxHeartbeats 1600000 in
theorem specFileEntry_any (p : Bs) (a : Option Addr) (cap n : Nat) (zs : List Int) (w : World) (h : Reads .u8 w a zs) (hn : n = zs.length) (hu : U8 zs) (hcap : zs.length ≤ cap) (hp : p.length ≤ 1048576) :
    Calls Try.prog 44 #[.string (str p), .slice a n cap] w (ResE (fileCode p zs) (fileList p zs) w) := by
  subst hn
  have HQ := hide (fun u => l3Fault_any (str p) u (by rw [str_size]; omega))
  have HC := hide (fun (u : World) hb hl => l4File_any p a cap zs u (h.below hb) hu hcap hl)
  clear h hu
  have X0 := hide (Box.new w (.int .i64 0) (.slice none 0 0) 72)
  have B0 := hide (below_alloc w (.cells #[.int .i64 0, .slice none 0 0] 72))
  go_enter Try.func44, Try.ntmps44
  go_wp2_with fail
  refine (HQ.out _).mono ?_
  rintro r w1 ⟨rfl, hb1⟩
  rw [str_data]
  have B1 := hide (below_next B0.out hb1)
  have X1 := hide (X0.out.below hb1)
  clear hb1 X0 B0
  by_cases hz : faultP p = 0
  · rw [hz]
    by_cases hl : 24 < zs.length
    · have HR := hide (show fileCode p zs = 2 ∧ fileList p zs = [] from by
        have : fileCode p zs = 2 := by simp [fileCode, hz, hl]
        exact ⟨this, by simp [fileList, this]⟩)
      have hl2 : (24 : Int) < (zs.length : Int) := by omega
      clear hz
      obtain ⟨⟨t0, t1⟩, t2, t3⟩ := X1.out
      go_wp2_with fail
      exact bodyPost_ret (v := .agg #[.int .i64 2, .slice none 0 0]) (by simp [results, Try.results44, go_sem, t0, t1]) rfl (by rw [HR.out.1, HR.out.2]; exact ResE.bad (Nat.le_refl _) B1.out)
    · have HR := hide (show fileCode p zs = 0 ∧ fileList p zs = [fileE p zs] from by
        have : fileCode p zs = 0 := by simp [fileCode, hz, hl]
        exact ⟨this, by simp [fileList, this]⟩)
      have hl2 : ¬ (24 : Int) < (zs.length : Int) := by omega
      clear hz
      go_wp2_with fail
      refine (HC.out _ B1.out (by omega)).mono ?_
      rintro r w3 ⟨av, cv, rfl, hG, hb3⟩
      have hlt0 := X1.out.1.lt
      obtain ⟨⟨t0, t1⟩, t2, t3⟩ := (X1.out.below hb3).below (below_alloc w3 (.cells #[.string (str p), .int .i64 1, .int .i64 zs.length, .slice av (cut zs).length cv] 75))
      have hls := digs_len zs
      have GG := hide (GE.one (e := fileE p zs) (av := av) (cv := cv) hb3 (by unfold fileE; simp only; rw [hls]; exact hG))
      have hls2 : (fileE p zs).chunks.length = (cut zs).length := hls
      rw [hls2] at GG
      have B3 := hide (below_next (below_next B1.out hb3) (below_alloc w3 (.cells #[.string (str p), .int .i64 1, .int .i64 zs.length, .slice av (cut zs).length cv] 75)))
      clear hG hb3 X1 hls hls2
      go_wp2_with fail
      exact bodyPost_ret (v := .agg #[.int .i64 0, .slice (some ⟨w3.heap.size, 0, none⟩) 1 1]) (by simp [results, Try.results44, go_sem, t0, t1]) rfl (by rw [HR.out.1, HR.out.2]; exact ResE.of (w2 := w1) hlt0 (Nat.le_refl _) rfl GG.out B3.out)
  · have HR := hide (show fileCode p zs = faultP p ∧ fileList p zs = [] from by
      have : fileCode p zs = faultP p := by simp [fileCode, hz]
      exact ⟨this, by simp [fileList, this, hz]⟩)
    generalize faultP p = F at *
    have hz2 : (F != 0) = true := by simp; exact hz
    clear hz
    obtain ⟨⟨t0, t1⟩, t2, t3⟩ := X1.out
    go_wp2_with fail
    exact bodyPost_ret (v := .agg #[.int .i64 F, .slice none 0 0]) (by simp [results, Try.results44, go_sem, t0, t1]) rfl (by rw [HR.out.1, HR.out.2]; exact ResE.bad (Nat.le_refl _) B1.out)

end Go.Proofs.Ytbdbhdgfifojoaa
