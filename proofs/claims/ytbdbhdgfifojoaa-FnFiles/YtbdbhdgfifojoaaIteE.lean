/-
  The program's EntryAt and DropBelow.
-/
import Derived.Test.YtbdbhdgfifojoaaIteD
import Derived.Test.YtbdbhdgfifojoaaEntP
namespace Go.Proofs.Ytbdbhdgfifojoaa
open Go.RowKit Go.Maps
set_option linter.unusedVariables false
attribute [local go_sem ↓] Go.wp_at_zero Go.wp_at_succ

/-- What the program's EntryAt answers. -/
def findCodeP (es : List En) (p : Bs) : Int := if askP es p = 0 then (if (findE es p).isSome then 0 else 4) else askP es p
def findListP (es : List En) (p : Bs) : List En := if findCodeP es p = 0 then (findE es p).toList else []
theorem findE_step {es : List En} {k : Nat} {e : En} {p : Bs} (he : es[k]? = some e) (h : findE es p = findE (es.drop k) p) (hp : e.path ≠ p) : findE es p = findE (es.drop (k + 1)) p := by
  rw [h, drop_at he, findE, List.find?_cons]
  simp [hp, findE]
theorem findE_hit {es : List En} {k : Nat} {e : En} {p : Bs} (he : es[k]? = some e) (h : findE es p = findE (es.drop k) p) (hp : e.path = p) : findE es p = some e := by
  rw [h, drop_at he, findE, List.find?_cons]
  simp [hp]
theorem findE_end {es : List En} {k : Nat} {p : Bs} (hk : es.length ≤ k) (h : findE es p = findE (es.drop k) p) : findE es p = none := by
  rw [h, List.drop_eq_nil_of_le hk]; rfl


/-- Is a path the other one, or below it, as the program asks? -/
def atBelow (p t : Bs) : Bool := decide (p = t) || isBelow p t
set_option maxHeartbeats 800000 in
theorem isAtOrBelow_any (p t : Bs) (k z : Int) (a : Option Addr) (n c : Nat) (w : World) (hp : p.length ≤ 1048576) :
    Calls Try.prog 118 #[.agg #[.int .i64 z, .slice a n c, .string (str p), .int .i64 k], .string (str t)] w fun r w' => r = .returned (.bool (atBelow p t)) ∧ Below w.heap.size w w' := by
  have HB := hide (below_alloc w (.cells #[.int .i64 z, .slice a n c, .string (str p), .int .i64 k] 123))
  by_cases h : p = t
  · have hs1 := str_yes h
    have HE := hide (show atBelow p t = true from by simp [atBelow, h])
    clear h
    generalize atBelow p t = Z at HE ⊢
    go_enter Try.func118, Try.ntmps118
    go_wp2_with fail
    go_ret
    exact ⟨ret_bool HE.out.symm, HB.out⟩
  · have hs1 := str_no h
    have HE := hide (show atBelow p t = isBelow p t from by simp [atBelow, h])
    clear h
    generalize atBelow p t = Z at HE ⊢
    go_enter Try.func118, Try.ntmps118
    go_wp2_with fail
    refine (implIsBelow_any _ _ _ (by rw [str_size]; omega)).mono ?_
    rintro r w1 ⟨rfl, hb1⟩
    rw [str_data, str_data, ← HE.out]
    have HB1 := hide (below_next HB.out hb1)
    clear hb1 HE
    go_wp2_with fail
    cases Z
    · go_ret
      exact ⟨rfl, HB1.out⟩
    · go_ret
      exact ⟨rfl, HB1.out⟩
/-- Does an entry give way to another one that is put? -/
def oustsE (e x : En) : Bool := if dirK e.kind then decide (x.path = e.path) else atBelow x.path e.path
set_option maxHeartbeats 800000 in
theorem ousts_any (e x : En) (a b : Option Addr) (n m c d : Nat) (w : World) (hx : x.path.length ≤ 1048576) :
    Calls Try.prog 90 #[.agg #[.int .i64 e.size, .slice a n c, .string (str e.path), .int .i64 e.kind], .agg #[.int .i64 x.size, .slice b m d, .string (str x.path), .int .i64 x.kind]] w fun r w' => r = .returned (.bool (oustsE e x)) ∧ Below w.heap.size w w' := by
  have HB := hide (below_next (below_alloc w (.cells #[.int .i64 e.size, .slice a n c, .string (str e.path), .int .i64 e.kind] 123)) (below_alloc _ (.cells #[.int .i64 x.size, .slice b m d, .string (str x.path), .int .i64 x.kind] 123)))
  have F1 := hide ((Four.new w (.int .i64 e.size) (.slice a n c) (.string (str e.path)) (.int .i64 e.kind) 123).below (below_alloc _ (.cells #[.int .i64 x.size, .slice b m d, .string (str x.path), .int .i64 x.kind] 123)))
  have F2 := hide (Four.new (w.alloc (.cells #[.int .i64 e.size, .slice a n c, .string (str e.path), .int .i64 e.kind] 123)) (.int .i64 x.size) (.slice b m d) (.string (str x.path)) (.int .i64 x.kind) 123)
  have h1 : (w.alloc (.cells #[.int .i64 e.size, .slice a n c, .string (str e.path), .int .i64 e.kind] 123)).heap.size = w.heap.size + 1 := by simp
  rw [h1] at F2
  clear h1
  cases hd : dirK e.kind
  · have HE := hide (show oustsE e x = atBelow x.path e.path from by simp [oustsE, hd])
    have HD := hide hd
    clear hd
    generalize oustsE e x = Z at HE ⊢
    go_enter Try.func90, Try.ntmps90
    go_wp2_with fail
    refine (isDir_any _ _ _ _ _ _ _).mono ?_
    rintro r w1 ⟨rfl, hb1⟩
    rw [HD.out]
    obtain ⟨p0, p1, p2, p3⟩ := F1.out.below hb1
    obtain ⟨q0, q1, q2, q3⟩ := F2.out.below hb1
    have HB1 := hide (below_next HB.out hb1)
    clear hb1
    go_wp2_with fail
    refine (isAtOrBelow_any _ _ _ _ _ _ _ _ hx).mono ?_
    rintro r w2 ⟨rfl, hb2⟩
    have HB2 := hide (below_next HB1.out hb2)
    clear hb2
    go_wp2_with fail
    go_ret
    exact ⟨ret_bool HE.out.symm, HB2.out⟩
  · have HD := hide hd
    by_cases h : x.path = e.path
    · have hs1 := str_yes h
      have HE := hide (show oustsE e x = true from by simp [oustsE, hd, h])
      clear h hd
      generalize oustsE e x = Z at HE ⊢
      go_enter Try.func90, Try.ntmps90
      go_wp2_with fail
      refine (isDir_any _ _ _ _ _ _ _).mono ?_
      rintro r w1 ⟨rfl, hb1⟩
      rw [HD.out]
      obtain ⟨p0, p1, p2, p3⟩ := F1.out.below hb1
      obtain ⟨q0, q1, q2, q3⟩ := F2.out.below hb1
      have HB1 := hide (below_next HB.out hb1)
      clear hb1
      go_wp2_with fail
      go_ret
      exact ⟨ret_bool HE.out.symm, HB1.out⟩
    · have hs1 := str_no h
      have HE := hide (show oustsE e x = false from by simp [oustsE, hd, h])
      clear h hd
      generalize oustsE e x = Z at HE ⊢
      go_enter Try.func90, Try.ntmps90
      go_wp2_with fail
      refine (isDir_any _ _ _ _ _ _ _).mono ?_
      rintro r w1 ⟨rfl, hb1⟩
      rw [HD.out]
      obtain ⟨p0, p1, p2, p3⟩ := F1.out.below hb1
      obtain ⟨q0, q1, q2, q3⟩ := F2.out.below hb1
      have HB1 := hide (below_next HB.out hb1)
      clear hb1
      go_wp2_with fail
      go_ret
      exact ⟨ret_bool HE.out.symm, HB1.out⟩

/-- What DropBelow leaves. -/
def restP (es : List En) (p : Bs) : List En := es.filter fun e => !(atBelow e.path p)
def dropListP (es : List En) (p : Bs) : List En := if askP es p = 0 then restP es p else []
theorem restP_in {es : List En} {p : Bs} {k : Nat} {e : En} (he : es[k]? = some e) (h : atBelow e.path p = false) : restP (es.take (k + 1)) p = restP (es.take k) p ++ [e] := by
  rw [take_snoc_at he]; simp [restP, h]
theorem restP_out {es : List En} {p : Bs} {k : Nat} {e : En} (he : es[k]? = some e) (h : atBelow e.path p = true) : restP (es.take (k + 1)) p = restP (es.take k) p := by
  rw [take_snoc_at he]; simp [restP, h]
theorem restP_len (es : List En) (p : Bs) : (restP es p).length ≤ es.length := List.length_filter_le _ _
theorem restP_small {es : List En} (h : SmallE es) (p : Bs) : SmallE (restP es p) := fun e he => h e (List.mem_filter.1 he).1


end Go.Proofs.Ytbdbhdgfifojoaa
