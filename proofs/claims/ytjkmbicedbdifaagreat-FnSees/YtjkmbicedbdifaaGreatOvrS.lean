/-
  The model's draws for ListOver.
-/
import Derived.Test.YtjkmbicedbdifaaGreatOvrQ
import Derived.Test.YtjkmbicedbdifaaGreatOvrE
namespace Go.Proofs.YtjkmbicedbdifaaGreat
open Go.RowKit Go.Maps
set_option linter.unusedVariables false
attribute [local go_sem ↓] Go.wp_at_zero Go.wp_at_succ

theorem OwnS.keptP {p B : Nat} {w w' : World} {v : Value} {ns : List Bs} (h : OwnS B w v ns) (hk : Kept (fun b => b = p) w w') (hp : p < B) : OwnS B w' v ns := h.kept hk (fun g hg e => by have := (h.lt g hg).1; omega)
/-- What is known of drawn layers. -/
def GoodLs (ls : List (List En)) : Prop := ls.length ≤ 5 ∧ SmallL ls ∧ ∀ es ∈ ls, es.length ≤ 13 ∧ layFault es = layFaultP es
theorem goodLs_of {rs : List Ly} (h5 : rs.length ≤ 5) (h : ∀ x ∈ rs, GoodH x.es ∧ x.es.length ≤ 13 ∧ SmallE x.es) : GoodLs (rs.map Ly.es) := by
  refine ⟨by rw [List.length_map]; exact h5, fun es he => ?_, fun es he => ?_⟩
  · obtain ⟨x, hx, rfl⟩ := List.mem_map.1 he
    obtain ⟨_, h2, h3⟩ := h x hx
    exact ⟨by omega, h3⟩
  · obtain ⟨x, hx, rfl⟩ := List.mem_map.1 he
    obtain ⟨h1, h2, _⟩ := h x hx
    exact ⟨h2, h1.good.symm⟩
set_option maxRecDepth 100000 in
set_option maxHeartbeats 3200000 in
theorem l8With_any (a : Option Addr) (cap : Nat) (zs : List Int) (w : World) (h : Reads .u8 w a zs) (hu : U8 zs) (hl : zs.length ≤ 1048576) :
    Calls Tryz.prog 47 #[.slice a zs.length cap] w fun r w' => ∃ (ls : List (List En)) (av : Option Addr) (cv : Nat) (q : Bs), r = .returned (.tuple #[.slice av ls.length cv, .string (str q)]) ∧ RdL w' av ls ∧ GoodLs ls ∧ q.length ≤ 1048576 ∧ Below w.heap.size w w' := by
  have HR := hide h
  have HU := hide hu
  clear h hu
  go_enter Tryz.func47, Tryz.ntmps47
  go_wp2_with fail
  refine (l1Source_any a cap zs _ HR.out).mono ?_
  rintro r w1 ⟨rfl, s1, z1, b1⟩
  have S1 := hide (show SrcX w1 w.heap.size zs 0 from ⟨0, by decide, by decide, s1⟩)
  have B1 := hide b1
  have hp1 : w.heap.size < w1.heap.size := S1.out.lt
  clear s1 b1
  go_wp2_with fail
  refine (l7Layers_e w.heap.size zs 0 _ S1.out HU.out (by decide) (by omega)).mono ?_
  rintro r w2 ⟨v, rs, rfl, h5, hly, hO, s2, k2⟩
  obtain ⟨av, cv, rfl⟩ := hO.shape
  have HG := hide (goodLs_of h5 hly)
  have HO := hide hO
  have S2 := hide s2
  have B2 := hide (B1.out.trans (k2.below (B := w.heap.size) B1.out.size (fun b hb e => by omega)))
  have HLn := hide (show rs.length = (rs.map Ly.es).length by rw [List.length_map])
  clear hly hO s2 k2 S1 B1
  go_wp2_with fail
  refine (bent_e w.heap.size zs _ _ S2.out HU.out (by omega) (by omega)).mono ?_
  rintro r w3 ⟨q, rfl, hql, s3, k3⟩
  have HO3 := hide (HO.out.kept k3 hp1)
  have S3 := hide s3
  have B3 := hide (B2.out.trans (k3.below (B := w.heap.size) B2.out.size (fun b hb e => by omega)))
  clear s3 k3 S2 B2 HO
  have HPO := hide (specPathsOver_names av cv rs.length (rs.map Ly.es) w3 HO3.out.rd HLn.out (by have := HG.out.1; omega) HG.out.2.1 (fun es he => (HG.out.2.2 es he).2))
  go_wp2_with fail
  refine HPO.out.mono ?_
  rintro r w4 ⟨nv, nc, ns, rfl, hN, hP, hb4⟩
  have HO4 := hide (HO3.out.below hb4)
  have S4 := hide (S3.out.below hb4)
  have B4 := hide (below_next B3.out hb4)
  have hp3 : w.heap.size < w3.heap.size := S3.out.lt
  have HN := hide hN
  have HP := hide hP
  have hnl := hP.1
  clear hN hP hb4 S3 B3 HO3 HPO
  generalize layersP (rs.map Ly.es) = F
  have hfd : ∀ (w : World) (v : Value), (Instr.field 28 (.agg #[.int .i64 F, v]) 1).run Tryz.prog w = .ok v w := fun _ _ => by kernel_rfl
  by_cases hpos : 0 < ns.length
  · have hpos' : (0 : Int) < (ns.length : Int) := by omega
    go_wp2_with fail
    refine (chance_e w.heap.size zs _ 2 _ S4.out HU.out (by omega) (by decide) (by decide) (by omega)).mono ?_
    rintro r w5 ⟨ch, rfl, s5, k5⟩
    have HO5 := hide (HO4.out.kept k5 hp1)
    have N5 := hide (OwnS.keptP HN.out k5 hp3)
    have S5 := hide s5
    have B5 := hide (B4.out.trans (k5.below (B := w.heap.size) B4.out.size (fun b hb e => by omega)))
    clear s5 k5 S4 B4 HO4 HN
    cases ch
    · go_wp2_with fail
      go_ret2
      exact ⟨rs.map Ly.es, av, cv, q, by rw [← HLn.out]; rfl, HO5.out.rd, HG.out, by omega, B5.out⟩
    · go_wp2_with fail
      refine (next_e w.heap.size zs _ ns.length _ S5.out HU.out (by omega) (by omega) (by omega) (by omega)).mono ?_
      rintro r w6 ⟨i, rfl, hi, s6, k6⟩
      have HO6 := hide (HO5.out.kept k6 hp1)
      have N6 := hide (OwnS.keptP N5.out k6 hp3)
      have B6 := hide (B5.out.trans (k6.below (B := w.heap.size) B5.out.size (fun b hb e => by omega)))
      clear s6 k6 S5 B5 HO5 N5
      have hi' : i < ns.length := by omega
      obtain ⟨b, off, x, rfl, hb, he, c0⟩ := N6.out.reads.at hi'
      have hxl := (HP.out.2 x (List.mem_of_getElem? he)).2
      clear he
      go_wp2_with fail
      go_ret2
      exact ⟨rs.map Ly.es, av, cv, x, by rw [← HLn.out]; rfl, HO6.out.rd, HG.out, hxl, B6.out⟩
  · have hpos' : ¬ (0 : Int) < (ns.length : Int) := by omega
    go_wp2_with fail
    go_ret2
    exact ⟨rs.map Ly.es, av, cv, q, by rw [← HLn.out]; rfl, HO4.out.rd, HG.out, by omega, B4.out⟩
set_option maxRecDepth 100000 in
set_option maxHeartbeats 3200000 in
theorem drawListOver_any (a : Option Addr) (cap : Nat) (zs : List Int) (w : World) (h : Reads .u8 w a zs) (hu : U8 zs) (hl : zs.length ≤ 1048576) :
    Calls Tryz.prog 15 #[.slice a zs.length cap] w fun r w' => ∃ (ls : List (List En)) (av : Option Addr) (cv : Nat) (q : Bs), r = .returned (.tuple #[.slice av ls.length cv, .string (str q)]) ∧ RdL w' av ls ∧ GoodLs ls ∧ q.length ≤ 1048576 ∧ Below w.heap.size w w' := by
  have HC := hide (l8With_any a cap zs w h hu hl)
  clear h hu
  go_enter Tryz.func15, Tryz.ntmps15
  go_wp2_with fail
  refine HC.out.mono ?_
  rintro r w1 ⟨ls, av, cv, q, rfl, hrd, hgd, hq, hb⟩
  have H1 := hide hrd
  have H2 := hide hgd
  have H4 := hide hb
  clear hrd hgd hb HC
  have hw4 : IntKind.i64.wrap ((zs.length : Int).tmod 4) = (zs.length : Int).tmod 4 := by
    have h1 := Int.tmod_nonneg 4 (show (0 : Int) ≤ (zs.length : Int) by omega)
    have h2 := Int.tmod_lt_of_pos (zs.length : Int) (show (0 : Int) < 4 by decide)
    simp [IntKind.wrap, IntKind.signed, IntKind.bits]; omega
  by_cases h3 : (zs.length : Int) % 4 = 0
  · have hb3 : ((zs.length : Int) % 4 == 0) = true := by simpa using h3
    clear h3
    go_wp2_with fail
    go_ret2
    exact ⟨ls, av, cv, [47], rfl, H1.out, H2.out, by simp, H4.out⟩
  · have hb3 : ((zs.length : Int) % 4 == 0) = false := by simpa using h3
    clear h3
    go_wp2_with fail
    go_ret2
    exact ⟨ls, av, cv, q, rfl, H1.out, H2.out, by omega, H4.out⟩
end Go.Proofs.YtjkmbicedbdifaaGreat
