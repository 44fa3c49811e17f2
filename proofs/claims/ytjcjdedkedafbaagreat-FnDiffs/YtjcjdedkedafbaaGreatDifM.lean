/-
  The model's question whether a path is a directory; what its directories that are filled up are, as lists.
-/
import Derived.Test.YtjcjdedkedafbaaGreatDifL
import Derived.Test.YtjcjdedkedafbaaGreatTreN
import Derived.Test.YtjcjdedkedafbaaGreatEntS
import Derived.Test.YtjcjdedkedafbaaGreatJ2
namespace Go.Proofs.YtjcjdedkedafbaaGreat
open Go.RowKit Go.Maps
set_option linter.unusedVariables false
attribute [local go_sem ↓] Go.wp_at_zero Go.wp_at_succ

def isDirM (es : List En) (p : Bs) : Bool := if p = [] then true else match findE es p with | some d => decide (d.kind = 2) | none => false
theorem isDirM_home {es : List En} (h : RightT es) (q : Bs) : isDirM es (parentP q) = decide (homeC es q = 0) := by
  unfold isDirM homeC
  by_cases h0 : parentP q = []
  · simp [h0]
  · rw [if_neg h0, if_neg h0]
    cases hf : findE es (parentP q) with
    | none => simp
    | some e =>
      rcases h.kinds (find_mem hf).1 with hk | hk
      · simp [hk]
      · simp [hk]
theorem isDirM_top (es : List En) : isDirM es [] = true := by simp [isDirM]
theorem isDirM_none {es : List En} {p : Bs} (h0 : p ≠ []) (h : findE es p = none) : isDirM es p = false := by simp [isDirM, h0, h]
theorem isDirM_some {es : List En} {p : Bs} {d : En} (h0 : p ≠ []) (h : findE es p = some d) : isDirM es p = decide (d.kind = 2) := by simp [isDirM, h0, h]
theorem at_none {es : List En} {p : Bs} (h : atE es p = none) : findE es p = none := by rw [atE_find, h]; rfl
theorem at_some {es : List En} {p : Bs} {k : Nat} (h : atE es p = some k) : ∃ e, es[k]? = some e ∧ findE es p = some e ∧ e.path = p := by
  have hk := atE_lt h
  obtain ⟨e, he⟩ : ∃ e, es[k]? = some e := ⟨_, List.getElem?_eq_getElem hk⟩
  have hf : findE es p = some e := by rw [atE_find, h]; exact he
  exact ⟨e, he, hf, (find_mem hf).2⟩
theorem at_atP {es : List En} {p : Bs} : atE es p = none ↔ atP es p = false := by
  rw [atP_find]
  constructor
  · exact at_none
  · intro h
    cases ha : atE es p with
    | none => rfl
    | some k =>
      obtain ⟨e, -, hf, -⟩ := at_some ha
      rw [h] at hf
      cases hf
theorem at_atP' {es : List En} {p : Bs} {k : Nat} (h : atE es p = some k) : atP es p = true := by
  cases ha : atP es p
  · rw [at_atP.2 ha] at h; cases h
  · rfl
set_option maxRecDepth 100000 in
set_option maxHeartbeats 800000 in
theorem l7IsDir_any (a : Option Addr) (c n : Nat) (es : List En) (p : Bs) (w : World) (h : RdE w a es) (hn : n = es.length) (hl : es.length ≤ 1048576) :
    Calls Tryz.prog 59 #[.slice a n c, .string (str p)] w fun r w' => r = .returned (.bool (isDirM es p)) ∧ w' = w := by
  subst hn
  have HR := hide h
  have hs0 : ((str p).toList == []) = decide (p = []) := by rw [str_toList]; by_cases h0 : p = [] <;> simp [h0]
  have HAT := hide (l4At_any a c es.length es p w h rfl hl)
  clear h
  by_cases h0 : p = []
  · have HZ := hide (show isDirM es p = true from by rw [h0]; exact isDirM_top es)
    generalize isDirM es p = Z at *
    rw [decide_eq_true h0] at hs0
    clear h0
    go_enter Tryz.func59, Tryz.ntmps59
    go_wp2_with fail
    go_ret
    exact ⟨ret_bool HZ.out.symm, rfl⟩
  · have hp0 := h0
    rw [decide_eq_false h0] at hs0
    clear h0
    cases ha : atE es p with
    | none =>
      have HZ := hide (isDirM_none hp0 (at_none ha))
      rw [ha] at HAT
      have e1 : placeI none = -1 := rfl
      rw [e1] at HAT
      generalize isDirM es p = Z at *
      clear ha e1 hp0
      go_enter Tryz.func59, Tryz.ntmps59
      go_wp2_with fail
      refine HAT.out.mono ?_
      rintro r w1 ⟨rfl, rfl⟩
      go_wp2_with fail
      go_ret
      exact ⟨ret_bool HZ.out.symm, rfl⟩
    | some k =>
      obtain ⟨e, he, hf, -⟩ := at_some ha
      have hk := atE_lt ha
      have HZ := hide (isDirM_some hp0 hf)
      rw [ha] at HAT
      have e1 : placeI (some k) = (k : Int) := rfl
      rw [e1] at HAT
      obtain ⟨bb, off, e', x, cc, rfl, hb, he', c0, c1, c2, c3, hr⟩ := HR.out.at hk
      have : e' = e := Option.some.inj (he'.symm.trans he)
      subst this
      have hkd : (e'.kind == 2) = decide (e'.kind = 2) := by by_cases hk2 : e'.kind = 2 <;> simp [hk2]
      rw [← HZ.out] at hkd
      generalize isDirM es p = Z at *
      have hk0 : (0 : Int) ≤ (k : Int) := by omega
      have hk1 : (k : Int) < (es.length : Int) := by omega
      clear ha e1 hp0 hf he he' hr
      go_enter Tryz.func59, Tryz.ntmps59
      go_wp2_with fail
      refine HAT.out.mono ?_
      rintro r w1 ⟨rfl, rfl⟩
      go_wp2_with fail
      go_ret
      exact ⟨rfl, rfl⟩
/-- The paths above an entry. -/
def upsE (e : En) : List Bs := aboveN (cutB e.path.tail)
/-- One more directory that is filled up. -/
def stepD (O F : List En) (p : Bs) : List En := if atP O p || atP F p then F else putE F (dirE p)
def dirsOf (O : List En) (P : List Bs) : List En := P.foldl (stepD O) []
theorem dirsOf_snoc (O : List En) (P : List Bs) (p : Bs) : dirsOf O (P ++ [p]) = stepD O (dirsOf O P) p := by simp [dirsOf, List.foldl_append]
theorem putD_len (F : List En) (e : En) : (putE F e).length ≤ F.length + 1 := put_len_le F e
theorem dirsOf_facts (O : List En) : ∀ (P : List Bs), Rise (dirsOf O P) ∧ (dirsOf O P).length ≤ P.length ∧ ∀ x, x ∈ dirsOf O P ↔ ∃ p ∈ P, atP O p = false ∧ x = dirE p := by
  intro P
  rw [← List.reverse_reverse P]
  generalize P.reverse = Q
  induction Q with
  | nil => exact ⟨List.Pairwise.nil, by simp [dirsOf], fun x => by simp [dirsOf]⟩
  | cons p Q ih =>
    obtain ⟨h1, h2, h3⟩ := ih
    rw [List.reverse_cons]
    generalize Q.reverse = P at *
    rw [dirsOf_snoc]
    unfold stepD
    by_cases hc : (atP O p || atP (dirsOf O P) p) = true
    · rw [if_pos hc]
      refine ⟨h1, by rw [List.length_append]; omega, fun x => ?_⟩
      rw [h3]
      constructor
      · rintro ⟨q, hq, hx⟩
        exact ⟨q, List.mem_append_left _ hq, hx⟩
      · rintro ⟨q, hq, hx⟩
        rcases List.mem_append.1 hq with hq | hq
        · exact ⟨q, hq, hx⟩
        · simp only [List.mem_singleton] at hq
          subst hq
          rcases Bool.or_eq_true .. ▸ hc with h | h
          · rw [hx.1] at h; cases h
          · obtain ⟨y, hy, hyp⟩ := atP_iff.1 h
            obtain ⟨r, hr, hrx⟩ := (h3 y).1 hy
            rw [hrx.2] at hyp
            have : r = q := hyp
            exact ⟨r, hr, hrx.1, by rw [hx.2, this]⟩
    · rw [if_neg hc]
      have hc' : (atP O p || atP (dirsOf O P) p) = false := by simpa using hc
      obtain ⟨hO, hF⟩ := Bool.or_eq_false_iff.1 hc'
      refine ⟨rise_putE h1, by rw [List.length_append]; have := putD_len (dirsOf O P) (dirE p); simp only [List.length_cons, List.length_nil]; omega, fun x => ?_⟩
      rw [mem_putE, h3]
      constructor
      · rintro (rfl | ⟨⟨q, hq, hx⟩, -⟩)
        · exact ⟨p, by simp, hO, rfl⟩
        · exact ⟨q, List.mem_append_left _ hq, hx⟩
      · rintro ⟨q, hq, hx⟩
        rcases List.mem_append.1 hq with hq | hq
        · refine .inr ⟨⟨q, hq, hx⟩, ?_⟩
          have hxF : x ∈ dirsOf O P := (h3 x).2 ⟨q, hq, hx⟩
          have hne : x.path ≠ (dirE p).path := atP_false.1 hF x hxF
          simp only [keepE, Bool.and_eq_true, Bool.not_eq_true', decide_eq_false_iff_not, Bool.or_eq_true]
          exact ⟨hne, .inl rfl⟩
        · simp only [List.mem_singleton] at hq
          subst hq
          exact .inl hx.2
/-- What the model tells first: what goes, then what is another one. -/
def outM (a b : List En) : List En := goneE a b ++ turnE a b
theorem mem_outM {a b : List En} {e : En} : e ∈ outM a b ↔ e ∈ diffU a b := by
  rw [outM, diffU, List.mem_append, List.mem_append]
  exact ⟨fun h => h.symm, fun h => h.symm⟩
theorem atP_out {a b : List En} {p : Bs} : atP (outM a b) p = false ↔ ∀ y ∈ diffU a b, y.path ≠ p := by
  rw [atP_false]
  exact ⟨fun h y hy => h y (mem_outM.2 hy), fun h y hy => h y (mem_outM.1 hy)⟩
/-- The directories that are filled up are those that have one of these below them. -/
theorem dirs_homes {a b : List En} (ha : RightT a) (hb : RightT b) : dirsOf (outM a b) ((outM a b).flatMap upsE) = homesE b (diffU a b) := by
  obtain ⟨h1, -, h3⟩ := dirsOf_facts (outM a b) ((outM a b).flatMap upsE)
  refine rise_mem h1 (hb.rise.sublist List.filter_sublist) (fun x => ?_)
  rw [h3, mem_homes]
  constructor
  · rintro ⟨p, hp, hn, rfl⟩
    obtain ⟨e, he, hpe⟩ := List.mem_flatMap.1 hp
    have heU := mem_outM.1 he
    obtain ⟨hpf, hpb⟩ := (above_iff (diffU_path ha hb heU)).1 hpe
    obtain ⟨d, hd, hdp, hdk⟩ := diffU_up ha hb heU hpf hpb
    have hde : d = dirE p := dir_one (hb.ent d hd) (dirE_right hpf) hdp hdk (by show (2 : Int) ≠ 1; decide)
    subst hde
    refine ⟨hd, ⟨e, heU, ?_⟩, atP_out.1 hn⟩
    show isBelow e.path p = true
    rw [isBelow_eq (diffU_path ha hb heU) hpf]
    exact hpb
  · rintro ⟨hx, ⟨y, hy, hyb⟩, hn⟩
    have hxp := hb.path hx
    rw [isBelow_eq (diffU_path ha hb hy) hxp] at hyb
    obtain ⟨d, hd, hdp, hdk⟩ := diffU_up ha hb hy hxp hyb
    have hdx := hb.only hd hx hdp
    subst hdx
    exact ⟨d.path, List.mem_flatMap.2 ⟨y, mem_outM.2 hy, (above_iff (diffU_path ha hb hy)).2 ⟨hxp, hyb⟩⟩, atP_out.2 hn, dir_one (hb.ent d hd) (dirE_right hxp) rfl hdk (by show (2 : Int) ≠ 1; decide)⟩
theorem outM_len (a b : List En) : (outM a b).length = (diffU a b).length := by simp [outM, diffU, Nat.add_comm]
end Go.Proofs.YtjcjdedkedafbaaGreat
