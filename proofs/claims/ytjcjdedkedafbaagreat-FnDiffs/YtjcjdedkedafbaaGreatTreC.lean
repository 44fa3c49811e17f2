/-
  The program's TreeFault, StatTree, ListTree and RemoveTree.
-/
import Derived.Test.YtjcjdedkedafbaaGreatTreB
import Derived.Test.YtjcjdedkedafbaaGreatTreN
import Derived.Test.YtjcjdedkedafbaaGreatJ1
namespace Go.Proofs.YtjcjdedkedafbaaGreat
open Go.RowKit Go.Maps
set_option linter.unusedVariables false
attribute [local go_sem ↓] Go.wp_at_zero Go.wp_at_succ

theorem treP_many {es : List En} (h : 40 < es.length) : treFaultP es = 2 := by simp [treFaultP, h]
theorem treP_kind {es : List En} (h : ¬ 40 < es.length) (hk : (es.any fun e => !treeK e.kind) = true) : treFaultP es = 1 := by
  have : es.all (fun e => treeK e.kind) = false := by
    rw [List.all_eq_false]
    obtain ⟨e, he, h1⟩ := List.any_eq_true.1 hk
    exact ⟨e, he, by simpa using h1⟩
  simp [treFaultP, h, this]
theorem treP_few {es : List En} (h : ¬ 40 < es.length) (hk : (es.any fun e => !treeK e.kind) = false) : treFaultP es = layFromH (homeP es) none es := by
  have : es.all (fun e => treeK e.kind) = true := by
    rw [List.all_eq_true]
    intro e he
    have := List.any_eq_false.1 hk e he
    simpa using this
  rw [treFaultP, if_neg h, this, if_pos rfl]
set_option maxRecDepth 100000 in
set_option maxHeartbeats 800000 in
theorem implTreeFault_any (a : Option Addr) (c n : Nat) (es : List En) (w : World) (h : RdE w a es) (hn : n = es.length) (hl : es.length ≤ 1048576) (hs : SmallE es) :
    Calls Tryz.prog 22 #[.slice a n c] w fun r w' => r = .returned (.int .i64 (treFaultP es)) ∧ Below w.heap.size w w' := by
  subst hn
  by_cases hm : 40 < es.length
  · have HE := hide (treP_many hm)
    have hm2 : (40 : Int) < (es.length : Int) := by omega
    go_enter Tryz.func22, Tryz.ntmps22
    go_wp2_with fail
    go_ret
    exact ⟨ret_int HE.out.symm, Below.refl _ _⟩
  · have hm2 : ¬ (40 : Int) < (es.length : Int) := by omega
    have HK := hide (treP_kind (es := es) hm)
    have HE := hide (treP_few (es := es) hm)
    have HR := hide h
    have HS := hide hs
    clear h hs
    generalize treFaultP es = F at *
    go_enter Tryz.func22, Tryz.ntmps22
    go_wp2_with fail
    refine (treeOf_any a c es.length es _ HR.out rfl hl).mono ?_
    rintro r w1 ⟨av, cv, rfl, hL, hb1⟩
    have RI := hide (hL.rd hb1)
    have B1 := hide hb1
    clear hL hb1
    go_wp2_with fail
    refine (hasI_any av cv es.length es _ _ _ _ RI.out rfl hl HS.out (noTree_asks w1)).mono ?_
    rintro r w2 ⟨rfl, hb2⟩
    have B2 := hide (below_next B1.out hb2)
    clear hb2
    cases hk : es.any fun e => !treeK e.kind
    · have HF := hide (HE.out hk)
      clear hk
      go_wp2_with fail
      refine (entriesFault_any a c es.length es _ (HR.out.below B2.out) rfl hl HS.out).mono ?_
      rintro r w3 ⟨rfl, hb3⟩
      rw [← HF.out]
      have B3 := hide (below_next B2.out hb3)
      clear hb3
      go_wp2_with fail
      go_ret
      exact ⟨rfl, B3.out⟩
    · have HF := hide (HK.out hk)
      clear hk
      go_wp2_with fail
      go_ret
      exact ⟨ret_int HF.out.symm, B2.out⟩

/-- What is asked of a tree and a path. -/
def askT (es : List En) (p : Bs) : Int := if treFaultP es = 0 then faultP p else treFaultP es

def statC (es : List En) (p : Bs) : Int := if askT es p = 0 then (if (findE es p).isSome then 0 else 4) else askT es p
def statL (es : List En) (p : Bs) : List En := if statC es p = 0 then (findE es p).toList else []
end Go.Proofs.YtjcjdedkedafbaaGreat
