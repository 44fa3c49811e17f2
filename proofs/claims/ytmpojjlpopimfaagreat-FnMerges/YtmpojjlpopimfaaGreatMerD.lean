/-
  The draws of a layer and a tree.
-/
import Derived.Test.YtmpojjlpopimfaaGreatMerM
import Derived.Test.YtmpojjlpopimfaaGreatDrawI
import Derived.Test.YtmpojjlpopimfaaGreatTreF
namespace Go.Proofs.YtmpojjlpopimfaaGreat
open Go.RowKit Go.Maps
set_option linter.unusedVariables false
attribute [local go_sem ↓] Go.wp_at_zero Go.wp_at_succ

set_option maxRecDepth 100000 in
set_option maxHeartbeats 1600000 in
theorem drawTreeText_any (a : Option Addr) (cap : Nat) (zs : List Int) (w : World) (h : Reads .u8 w a zs) (hu : U8 zs) (hl : zs.length ≤ 1048576) :
    Calls Tryz.prog 13 #[.slice a zs.length cap] w fun r w' => ∃ (es : List En) (av : Option Addr) (cv : Nat), r = .returned (.slice av es.length cv) ∧ GoodH es ∧ es.length ≤ 41 ∧ SmallE es ∧ RdE w' av es ∧ Below w.heap.size w w' := by
  have HR := hide h
  have HU := hide hu
  clear h hu
  go_enter Tryz.func13, Tryz.ntmps13
  go_wp2_with fail
  refine (l1Source_any a cap zs _ HR.out).mono ?_
  rintro r w1 ⟨rfl, s1, z1, b1⟩
  have S1 := hide (show SrcX w1 w.heap.size zs 0 from ⟨0, by decide, by decide, s1⟩)
  have B1 := hide b1
  clear s1 b1
  go_wp2_with fail
  refine (bentTree_e w.heap.size zs 0 _ S1.out HU.out (by decide) (by omega)).mono ?_
  rintro r w2 ⟨es, av, cv, rfl, hgd, hlen, hsm, hG, s2, k2⟩
  have H1 := hide hgd
  have H2 := hide hsm
  have H3 := hide hG.rd
  have B2 := hide (B1.out.trans (k2.below (B := w.heap.size) B1.out.size (fun b hb e => by omega)))
  clear hgd hsm hG s2 k2 S1 B1
  go_wp2_with fail
  go_ret
  exact ⟨es, av, cv, rfl, H1.out, hlen, H2.out, H3.out, B2.out⟩
set_option maxRecDepth 100000 in
set_option maxHeartbeats 1600000 in
theorem drawHidesBelow_any (a : Option Addr) (cap : Nat) (zs : List Int) (w : World) (h : Reads .u8 w a zs) (hu : U8 zs) (hl : zs.length ≤ 1048576) :
    Calls Tryz.prog 8 #[.slice a zs.length cap] w fun r w' => ∃ (es : List En) (av : Option Addr) (cv : Nat) (q : Bs), r = .returned (.tuple #[.slice av es.length cv, .string (str q)]) ∧ es.length ≤ 13 ∧ SmallE es ∧ RdE w' av es ∧ q.length ≤ 1048576 ∧ Below w.heap.size w w' := by
  have HC := hide (with_e a cap zs w h hu hl)
  clear h hu
  go_enter Tryz.func8, Tryz.ntmps8
  go_wp2_with fail
  refine HC.out.mono ?_
  rintro r w2 ⟨es, av, cv, q, rfl, -, hlen, hsm, hG, hq, hb⟩
  have H2 := hide hsm
  have H3 := hide hG.rd
  have B2 := hide hb
  clear hsm hG hb
  go_wp2_with fail
  exact bodyPost_ret (v := .tuple #[.slice av es.length cv, .string (str q)]) (by simp [results, Tryz.results8, go_sem]) rfl ⟨es, av, cv, q, rfl, hlen, H2.out, H3.out, hq, B2.out⟩
set_option maxRecDepth 100000 in
set_option maxHeartbeats 1600000 in
theorem drawMergeLayer_any (a : Option Addr) (cap : Nat) (zs : List Int) (w : World) (h : Reads .u8 w a zs) (hu : U8 zs) (hl : zs.length ≤ 1048576) :
    Calls Tryz.prog 18 #[.slice a zs.length cap] w fun r w' => ∃ (t : List En) (av : Option Addr) (cv : Nat) (L : List En) (bv : Option Addr) (cw : Nat), r = .returned (.tuple #[.slice av t.length cv, .slice bv L.length cw]) ∧ (GoodH t ∧ GoodH L) ∧ (t.length ≤ 41 ∧ L.length ≤ 13) ∧ (SmallE t ∧ SmallE L) ∧ (RdE w' av t ∧ RdE w' bv L) ∧ t.length ≤ cv ∧ Below w.heap.size w w' := by
  have HR := hide h
  have HU := hide hu
  clear h hu
  go_enter Tryz.func18, Tryz.ntmps18
  go_wp2_with fail
  refine (l1Source_any a cap zs _ HR.out).mono ?_
  rintro r w1 ⟨rfl, s1, z1, b1⟩
  have S1 := hide (show SrcX w1 w.heap.size zs 0 from ⟨0, by decide, by decide, s1⟩)
  have B1 := hide b1
  clear s1 b1
  go_wp2_with fail
  refine (bentTree_e w.heap.size zs 0 _ S1.out HU.out (by decide) (by omega)).mono ?_
  rintro r w2 ⟨es, av, cv, rfl, hgd, hlen, hsm, hG, s2, k2⟩
  have hcap : es.length ≤ cv := by
    by_cases h0 : 0 < es.length
    · obtain ⟨g, -, hc⟩ := hG.addr rfl (.inl h0)
      exact hc
    · omega
  have H1 := hide hgd
  have H2 := hide hsm
  have G2 := hide (hG.mono (B' := w.heap.size + 1) (by omega))
  have S2 := hide s2
  have B2 := hide (B1.out.trans (k2.below (B := w.heap.size) B1.out.size (fun b hb e => by omega)))
  have hs2 := k2.size
  clear hgd hsm hG s2 k2 S1 B1
  go_wp2_with fail
  refine (bentLay_e w.heap.size zs _ _ S2.out HU.out (by omega) (by omega)).mono ?_
  rintro r w3 ⟨fs, bv, cw, rfl, hgd3, hlen3, hsm3, hG3, s3, k3⟩
  have H3 := hide hgd3
  have H4 := hide hsm3
  have F3 := hide hG3.rd
  have G3 := hide (G2.out.kept k3 (fun b h1 _ h2 => by omega)).rd
  have B3 := hide (B2.out.trans (k3.below (B := w.heap.size) B2.out.size (fun b hb e => by omega)))
  clear hgd3 hsm3 hG3 s3 k3 G2 S2 B2
  go_wp2_with fail
  exact bodyPost_ret (v := .tuple #[.slice av es.length cv, .slice bv fs.length cw]) (by simp [results, Tryz.results18, go_sem]) rfl ⟨es, av, cv, fs, bv, cw, rfl, ⟨H1.out, H3.out⟩, ⟨hlen, hlen3⟩, ⟨H2.out, H4.out⟩, ⟨G3.out, F3.out⟩, hcap, B3.out⟩
theorem smg_mrg {t L : List En} (hg : GoodH t) (hG : Good L) : smgCode t L = mrgCode t L ∧ smgList t L = mrgList t L := by
  have h1 := hg.tree
  have h2 : layFaultP L = layFault L := hG
  have h3 : smgCode t L = mrgCode t L := by unfold smgCode mrgCode; rw [h1, h2]
  exact ⟨h3, by unfold smgList mrgList; rw [h3]⟩
theorem mrg_zero {t L : List En} (h : mrgCode t L = 0) : RightT t ∧ Right L ∧ mrgList t L = mergeE t L ∧ (mergeE t L).length ≤ 40 := by
  by_cases h1 : treFaultP t = 0
  · by_cases h2 : layFaultP L = 0
    · by_cases h3 : 40 < (mergeE t L).length
      · rw [(mrg_many h1 h2 h3).1] at h; cases h
      · exact ⟨rightT_P.1 h1, right_P.1 h2, (mrg_ok h1 h2 h3).2, by omega⟩
    · rw [(mrg_layer h1 h2).1] at h; exact absurd h h2
  · rw [(mrg_tree h1).1] at h; exact absurd h h1
end Go.Proofs.YtmpojjlpopimfaaGreat
