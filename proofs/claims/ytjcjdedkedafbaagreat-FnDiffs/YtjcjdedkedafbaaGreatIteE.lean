/-
  The program's EntryAt and DropBelow.
-/
import Derived.Test.YtjcjdedkedafbaaGreatJ2
namespace Go.Proofs.YtjcjdedkedafbaaGreat
open Go.RowKit Go.Maps
set_option linter.unusedVariables false
attribute [local go_sem ↓] Go.wp_at_zero Go.wp_at_succ

/-- What the program's EntryAt answers. -/
def findCodeP (es : List En) (p : Bs) : Int := if askP es p = 0 then (if (findE es p).isSome then 0 else 4) else askP es p
def findListP (es : List En) (p : Bs) : List En := if findCodeP es p = 0 then (findE es p).toList else []
theorem findE_step {es : List En} {k : Nat} {e : En} {p : Bs} (he : es[k]? = some e) (h : findE es p = findE (es.drop k) p) (hp : e.path ≠ p) : findE es p = findE (es.drop (k + 1)) p := by
  rw [h, drop_at he, findE, List.find?_cons]
  simp [hp, findE]
theorem findE_hit {es : List En} {k : Nat} {e : En} {p : Bs} (he : es[k]? = some e) (h : findE es p = findE (es.drop k) p) (hp : e.path = p) : findE es p = some e := by
  rw [h, drop_at he, findE, List.find?_cons]
  simp [hp]
theorem findE_end {es : List En} {k : Nat} {p : Bs} (hk : es.length ≤ k) (h : findE es p = findE (es.drop k) p) : findE es p = none := by
  rw [h, List.drop_eq_nil_of_le hk]; rfl


/-- Is a path the other one, or below it, as the program asks? -/
def atBelow (p t : Bs) : Bool := decide (p = t) || isBelow p t
set_option maxHeartbeats 800000 in
theorem isAtOrBelow_any (p t : Bs) (k z : Int) (a : Option Addr) (n c : Nat) (w : World) (hp : p.length ≤ 1048576) :
    Calls Tryz.prog 94 #[.agg #[.int .i64 z, .slice a n c, .string (str p), .int .i64 k], .string (str t)] w fun r w' => r = .returned (.bool (atBelow p t)) ∧ Below w.heap.size w w' := by
  have HB := hide (below_alloc w (.cells #[.int .i64 z, .slice a n c, .string (str p), .int .i64 k] 61))
  by_cases h : p = t
  · have hs1 := str_yes h
    have HE := hide (show atBelow p t = true from by simp [atBelow, h])
    clear h
    generalize atBelow p t = Z at HE ⊢
    go_enter Tryz.func94, Tryz.ntmps94
    go_wp2_with fail
    go_ret
    exact ⟨ret_bool HE.out.symm, HB.out⟩
  · have hs1 := str_no h
    have HE := hide (show atBelow p t = isBelow p t from by simp [atBelow, h])
    clear h
    generalize atBelow p t = Z at HE ⊢
    go_enter Tryz.func94, Tryz.ntmps94
    go_wp2_with fail
    refine (implIsBelow_any _ _ _ (by rw [str_size]; omega)).mono ?_
    rintro r w1 ⟨rfl, hb1⟩
    rw [str_data, str_data, ← HE.out]
    have HB1 := hide (below_next HB.out hb1)
    clear hb1 HE
    go_wp2_with fail
    cases Z
    · go_ret
      exact ⟨rfl, HB1.out⟩
    · go_ret
      exact ⟨rfl, HB1.out⟩
/-- Does an entry give way to another one that is put? -/
def oustsE (e x : En) : Bool := if dirK e.kind then decide (x.path = e.path) else atBelow x.path e.path

/-- What DropBelow leaves. -/
def restP (es : List En) (p : Bs) : List En := es.filter fun e => !(atBelow e.path p)
def dropListP (es : List En) (p : Bs) : List En := if askP es p = 0 then restP es p else []
theorem restP_in {es : List En} {p : Bs} {k : Nat} {e : En} (he : es[k]? = some e) (h : atBelow e.path p = false) : restP (es.take (k + 1)) p = restP (es.take k) p ++ [e] := by
  rw [take_snoc_at he]; simp [restP, h]
theorem restP_out {es : List En} {p : Bs} {k : Nat} {e : En} (he : es[k]? = some e) (h : atBelow e.path p = true) : restP (es.take (k + 1)) p = restP (es.take k) p := by
  rw [take_snoc_at he]; simp [restP, h]
theorem restP_len (es : List En) (p : Bs) : (restP es p).length ≤ es.length := List.length_filter_le _ _
theorem restP_small {es : List En} (h : SmallE es) (p : Bs) : SmallE (restP es p) := fun e he => h e (List.mem_filter.1 he).1


end Go.Proofs.YtjcjdedkedafbaaGreat
