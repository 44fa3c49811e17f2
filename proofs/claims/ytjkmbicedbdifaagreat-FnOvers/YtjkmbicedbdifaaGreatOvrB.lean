/-
  The model's PathsOver where the layers have a fault.
-/
import Derived.Test.YtjkmbicedbdifaaGreatOvrA
import Derived.Test.YtjkmbicedbdifaaGreatSeeS
namespace Go.Proofs.YtjkmbicedbdifaaGreat
open Go.RowKit Go.Maps
set_option linter.unusedVariables false
attribute [local go_sem ↓] Go.wp_at_zero Go.wp_at_succ
set_option maxRecDepth 100000 in
set_option maxHeartbeats 1600000 in
theorem specPathsOver_bad (a : Option Addr) (c n : Nat) (ls : List (List En)) (w : World) (h : RdL w a ls) (hn : n = ls.length) (hl : ls.length ≤ 1048576) (hs : SmallL ls) (hg : ∀ es ∈ ls, layFault es = layFaultP es) (hz : layersP ls ≠ 0) :
    Calls Tryz.prog 9 #[.slice a n c] w (ResN (layersP ls) [] w) := by
  subst hn
  have X0 := hide (Box.new w (.int .i64 0) (.slice none 0 0) 28)
  have B0 := hide (below_alloc w (.cells #[.int .i64 0, .slice none 0 0] 28))
  have HLF := hide (specLayersFault_any a c ls.length ls _ (h.below B0.out) rfl hl hs hg)
  clear h hs hg
  generalize layersP ls = F at *
  have hz2 : (F != 0) = true := by simp; exact hz
  clear hz
  go_enter Tryz.func9, Tryz.ntmps9
  go_wp2_with fail
  refine HLF.out.mono ?_
  rintro r w1 ⟨rfl, hb1⟩
  have B1 := hide (below_next B0.out hb1)
  obtain ⟨⟨t0, t1⟩, t2, t3⟩ := X0.out.below hb1
  clear hb1
  go_wp2_with fail
  exact bodyPost_ret (v := .agg #[.int .i64 F, .slice none 0 0]) (by simp [results, Tryz.results9, go_sem, t0, t1]) rfl (ResN.bad (Nat.le_refl _) B1.out)
end Go.Proofs.YtjkmbicedbdifaaGreat
