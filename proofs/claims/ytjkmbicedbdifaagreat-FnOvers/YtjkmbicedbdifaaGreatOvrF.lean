/-
  The model's DrawPathsOver.
-/
import Derived.Test.YtjkmbicedbdifaaGreatOvrE
namespace Go.Proofs.YtjkmbicedbdifaaGreat
open Go.RowKit Go.Maps
set_option linter.unusedVariables false
attribute [local go_sem ↓] Go.wp_at_zero Go.wp_at_succ
set_option maxRecDepth 100000 in
set_option maxHeartbeats 1600000 in
theorem drawPathsOver_any (a : Option Addr) (cap : Nat) (zs : List Int) (w : World) (h : Reads .u8 w a zs) (hu : U8 zs) (hl : zs.length ≤ 1048576) :
    Calls Tryz.prog 6 #[.slice a zs.length cap] w fun r w' => ∃ (ls : List (List En)) (av : Option Addr) (cv : Nat), r = .returned (.slice av ls.length cv) ∧ RdL w' av ls ∧ ls.length ≤ 5 ∧ SmallL ls ∧ (∀ es ∈ ls, es.length ≤ 13 ∧ layFault es = layFaultP es) ∧ Below w.heap.size w w' := by
  have HR := hide h
  have HU := hide hu
  clear h hu
  go_enter Tryz.func6, Tryz.ntmps6
  go_wp2_with fail
  refine (l1Source_any a cap zs _ HR.out).mono ?_
  rintro r w1 ⟨rfl, s1, z1, b1⟩
  have S1 := hide (show SrcX w1 w.heap.size zs 0 from ⟨0, by decide, by decide, s1⟩)
  have B1 := hide b1
  clear s1 b1
  go_wp2_with fail
  refine (l7Layers_e w.heap.size zs 0 _ S1.out HU.out (by decide) (by omega)).mono ?_
  rintro r w2 ⟨v, rs, rfl, h5, hly, hO, s2, k2⟩
  obtain ⟨av, cv, rfl⟩ := hO.shape
  have HL := hide hly
  have HRd := hide hO.rd
  have B2 := hide (B1.out.trans (k2.below (B := w.heap.size) B1.out.size (fun b hb e => by omega)))
  have HLn := hide (show rs.length = (rs.map Ly.es).length by rw [List.length_map])
  clear hly hO s2 k2
  go_wp2_with fail
  go_ret
  refine ⟨rs.map Ly.es, av, cv, by rw [← HLn.out]; rfl, HRd.out, by rw [List.length_map]; exact h5, fun es he => ?_, fun es he => ?_, B2.out⟩
  · obtain ⟨x, hx, rfl⟩ := List.mem_map.1 he
    obtain ⟨_, h2, h3⟩ := HL.out x hx
    exact ⟨by omega, h3⟩
  · obtain ⟨x, hx, rfl⟩ := List.mem_map.1 he
    obtain ⟨h1, h2, _⟩ := HL.out x hx
    exact ⟨h2, h1.good.symm⟩
end Go.Proofs.YtjkmbicedbdifaaGreat
