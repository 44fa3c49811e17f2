/-
  Texts put together: MerL OvrL OvrM OvrN EntS EntX TreA SeeA SeeB SeeC SeeD SeeE SeeF SeeG SeeH OvrP TreB TreM TreR EntH.
-/
import Derived.Test.YtjkmbicedbdifaaGreatJ2
import Derived.Test.YtjkmbicedbdifaaGreatJ1
import Derived.Deep.SlicePairs
import Derived.ProofKit
import Derived.ChangeOld
import Derived.Maps.OwnSet
import Derived.DeepKeys5
import Derived.Deep.RegionLaw
import Derived.Shelf.Abstract
namespace Go.Proofs.YtjkmbicedbdifaaGreat
set_option linter.unusedVariables false

/-- Entries without faults, rising, each with a home; no bound on how many. -/
structure Fit (es : List En) : Prop where
  ent : ∀ e ∈ es, entFault e = 0
  rise : Rise es
  home : ∀ e ∈ es, homeP es e.path = true
structure FitT (es : List En) : Prop where
  fit : Fit es
  kind : ∀ e ∈ es, treeK e.kind = true
theorem fit_nil : Fit [] := ⟨fun e he => by simp at he, List.Pairwise.nil, fun e he => by simp at he⟩
theorem fitT_nil : FitT [] := ⟨fit_nil, fun e he => by simp at he⟩
theorem right_fit {es : List En} : Right es ↔ Fit es ∧ es.length ≤ 12 := ⟨fun h => ⟨⟨h.ent, h.rise, h.home⟩, h.len⟩, fun h => ⟨h.2, h.1.ent, h.1.rise, h.1.home⟩⟩
theorem rightT_fit {es : List En} : RightT es ↔ FitT es ∧ es.length ≤ 40 := ⟨fun h => ⟨⟨⟨h.ent, h.rise, h.home⟩, h.kind⟩, h.len⟩, fun h => ⟨h.2, h.1.kind, h.1.fit.ent, h.1.fit.rise, h.1.fit.home⟩⟩
theorem Fit.path {es : List En} (h : Fit es) {e : En} (he : e ∈ es) : faultP e.path = 0 := entFault_zero (h.ent e he)

theorem bl_append : ∀ (p : Bs) (c : UInt8) (r : Bs), Op.bytesLess p (p ++ c :: r) = true
  | [], c, r => by simp [Op.bytesLess]
  | a :: p, c, r => by simp [Op.bytesLess, bl_append p c r]
theorem below_less {q p : Bs} (h : belowB q p = true) : Op.bytesLess p q = true := by
  obtain ⟨r, _, rfl⟩ := belowB_iff.1 h
  exact bl_append p 47 r
theorem not_below_of_less {q p : Bs} (h : Op.bytesLess q p = true) : belowB q p = false := by
  cases hb : belowB q p
  · rfl
  · have := bl_asymm (below_less hb); rw [h] at this; cases this

theorem find_filter (es : List En) (f : Bs → Bool) (q : Bs) : findE (es.filter fun e => f e.path) q = if f q then findE es q else none := by
  unfold findE
  rw [List.find?_filter]
  cases hq : f q
  · rw [if_neg (by simp), List.find?_eq_none]
    intro x hx
    by_cases e : x.path = q
    · simp [e, hq]
    · simp [e]
  · rw [if_pos rfl]
    congr 1
    funext x
    by_cases e : x.path = q
    · simp [e, hq]
    · simp [e]
theorem find_putAt {bs : List En} {e : En} (hn : ∀ x ∈ bs, x.path ≠ e.path) (q : Bs) : findE (putAt bs e) q = if q = e.path then some e else findE bs q := by
  unfold putAt
  by_cases h : q = e.path
  · rw [if_pos h, findE, List.find?_append]
    have h1 : List.find? (fun x : En => decide (x.path = q)) (bs.take (lowN bs e.path)) = none := by
      rw [List.find?_eq_none]
      intro x hx
      simpa [h] using hn x (List.mem_of_mem_take hx)
    rw [h1]
    simp [h]
  · rw [if_neg h]
    conv => rhs; rw [← List.take_append_drop (lowN bs e.path) bs]
    have h2 : decide (e.path = q) = false := by simpa using fun x : e.path = q => h x.symm
    simp only [findE, List.find?_append, List.find?_cons, h2]
theorem find_snoc {D : List En} {e : En} (hn : ∀ x ∈ D, x.path ≠ e.path) (q : Bs) : findE (D ++ [e]) q = if q = e.path then some e else findE D q := by
  by_cases h : q = e.path
  · rw [if_pos h, findE, List.find?_append]
    have h1 : List.find? (fun x : En => decide (x.path = q)) D = none := by
      rw [List.find?_eq_none]
      intro x hx
      simpa [h] using hn x hx
    rw [h1]
    simp [h]
  · rw [if_neg h]
    have h2 : decide (e.path = q) = false := by simpa using fun x : e.path = q => h x.symm
    simp only [findE, List.find?_append, List.find?_cons, h2, List.find?_nil, Option.or_none]
/-- Two rising lists of which each path tells the same are one. -/
theorem rise_ext : ∀ {es fs : List En}, Rise es → Rise fs → (∀ q, findE es q = findE fs q) → es = fs
  | [], [], _, _, _ => rfl
  | [], y :: fs, _, h2, h => by
    have := h y.path
    rw [rise_find h2 List.mem_cons_self] at this
    cases this
  | x :: es, [], h1, _, h => by
    have := h x.path
    rw [rise_find h1 List.mem_cons_self] at this
    cases this
  | x :: es, y :: fs, h1, h2, h => by
    have p1 := List.pairwise_cons.1 h1
    have p2 := List.pairwise_cons.1 h2
    have hx : x ∈ y :: fs := by
      have := h x.path
      rw [rise_find h1 List.mem_cons_self] at this
      exact (find_mem this.symm).1
    have hy : y ∈ x :: es := by
      have := h y.path
      rw [rise_find h2 List.mem_cons_self] at this
      exact (find_mem this).1
    have hxy : x = y := by
      rcases List.mem_cons.1 hx with e | hx
      · exact e
      · rcases List.mem_cons.1 hy with e | hy
        · exact e.symm
        · have a1 := p2.1 x hx
          have a2 := p1.1 y hy
          have := bl_asymm a1
          rw [a2] at this
          cases this
    subst hxy
    congr 1
    refine rise_ext p1.2 p2.2 (fun q => ?_)
    by_cases e : x.path = q
    · rw [find_none (fun y hy e2 => bl_ne (p1.1 y hy) (e.trans e2.symm)), find_none (fun y hy e2 => bl_ne (p2.1 y hy) (e.trans e2.symm))]
    · have := h q
      simpa [findE, e] using this

/-- Where no directory stands nothing is below. -/
theorem Fit.bare {es : List En} (h : Fit es) {p : Bs} (hp : faultP p = 0) (hf : ∀ d ∈ es, d.path = p → dirK d.kind = false) : ∀ x ∈ es, belowB x.path p = false := by
  have : ∀ n, ∀ x ∈ es, x.path.length ≤ n → belowB x.path p = false := by
    intro n
    induction n with
    | zero =>
      intro x hx hl
      cases hb : belowB x.path p
      · rfl
      · have := below_len hb; omega
    | succ n ih =>
      intro x hx hl
      cases hb : belowB x.path p
      · rfl
      · exfalso
        obtain ⟨h0, h1⟩ := below_step (h.path hx) hp hb
        rcases homeP_iff.1 (h.home x hx) with h2 | ⟨d, hd, hdp, hdk⟩
        · exact h0 h2
        · rcases h1 with h1 | h1
          · rw [hf d hd (hdp.trans h1)] at hdk; cases hdk
          · have h3 := below_len (parent_above (h.path hx) h0).2
            have := ih d hd (by rw [hdp]; omega)
            rw [hdp, h1] at this; cases this
  exact fun x hx => this _ x hx (Nat.le_refl _)
theorem Fit.bare_find {es : List En} (h : Fit es) {p q : Bs} (hp : faultP p = 0) (hf : ∀ d ∈ es, d.path = p → dirK d.kind = false) (hb : belowB q p = true) : findE es q = none := by
  refine find_none (fun x hx e => ?_)
  have := h.bare hp hf x hx
  rw [e, hb] at this
  cases this
theorem Fit.up {es : List En} (h : Fit es) {p : Bs} {x : En} (hp : faultP p = 0) (hx : x ∈ es) (hb : belowB x.path p = true) : ∃ d ∈ es, d.path = p ∧ dirK d.kind = true := by
  by_cases hd : ∃ d ∈ es, d.path = p ∧ dirK d.kind = true
  · exact hd
  · exfalso
    have := h.bare hp (fun d hd1 hd2 => by
      cases hk : dirK d.kind
      · rfl
      · exact absurd ⟨d, hd1, hd2, hk⟩ hd) x hx
    rw [hb] at this
    cases this
theorem dir_bare {e : En} (h : entFault e = 0) (hk : e.kind ≠ 1) : e.size = 0 ∧ e.chunks = [] := by
  have hp := entFault_zero h
  have hf : formE e = true := by
    cases hf : formE e
    · rw [entFault_form hp hf] at h; cases h
    · rfl
  simp only [formE, decide_eq_true_eq] at hf
  rcases hf.2 with h1 | ⟨h1, h2⟩
  · exact absurd h1 hk
  · exact ⟨h1, List.length_eq_zero_iff.1 h2⟩
theorem ent_kinds {e : En} (h : entFault e = 0) : e.kind = 1 ∨ e.kind = 2 ∨ e.kind = 3 ∨ e.kind = 4 := by
  have hp := entFault_zero h
  have hf : formE e = true := by
    cases hf : formE e
    · rw [entFault_form hp hf] at h; cases h
    · rfl
  simp only [formE, decide_eq_true_eq] at hf
  omega
/-- Two entries of one path and of one kind that is no file are one. -/
theorem dir_one {d e : En} (h1 : entFault d = 0) (h2 : entFault e = 0) (hp : d.path = e.path) (hk : d.kind = e.kind) (hn : e.kind ≠ 1) : d = e := by
  obtain ⟨a1, a2⟩ := dir_bare h1 (by rw [hk]; exact hn)
  obtain ⟨b1, b2⟩ := dir_bare h2 hn
  cases d; cases e; simp_all
/-- The same entry with another kind that is no file. -/
def kindE (e : En) (k : Int) : En := { e with kind := k }
theorem ent_kind {e : En} {k : Int} (h : entFault e = 0) (hk : e.kind ≠ 1 ∨ (e.size = 0 ∧ e.chunks = [])) (h1 : 1 ≤ k) (h2 : k ≤ 4) : entFault (kindE e k) = 0 := by
  have hp := entFault_zero h
  obtain ⟨a1, a2⟩ : e.size = 0 ∧ e.chunks = [] := hk.elim (fun x => dir_bare h x) id
  have b1 : formE (kindE e k) = true := by simp [formE, kindE, a1, a2, h1, h2]
  have b2 : sizeE (kindE e k) = true := by simp [sizeE, kindE, a1]
  have b3 : manyE (kindE e k) = true := by simp [manyE, kindE, a1, a2]
  have b4 : (kindE e k).chunks.all isDig = true := by simp [kindE, a2]
  have b5 : faultP (kindE e k).path = 0 := hp
  rw [entFault_digs b5 b1 b2 b3, if_pos b4]

theorem mem_rest {t : List En} {p : Bs} {x : En} : x ∈ restE t p true ↔ x ∈ t ∧ x.path ≠ p ∧ belowB x.path p = false := by
  simp only [restE, goesE, List.mem_filter, Bool.not_eq_true', Bool.or_eq_false_iff, Bool.true_and, decide_eq_false_iff_not]
  exact ⟨fun h => ⟨h.1, h.2.2, h.2.1⟩, fun h => ⟨h.1, h.2.2, h.2.1⟩⟩
theorem find_rest (t : List En) (p q : Bs) : findE (restE t p true) q = if q = p then none else if belowB q p then none else findE t q := by
  have := find_filter t (fun y => !(belowB y p || (true && decide (y = p)))) q
  have e1 : restE t p true = t.filter (fun e => (fun y => !(belowB y p || (true && decide (y = p)))) e.path) := rfl
  rw [e1, this]
  by_cases h1 : q = p
  · simp [h1]
  · cases h2 : belowB q p <;> simp [h1]
theorem rest_rise {t : List En} (h : Rise t) (p : Bs) : Rise (restE t p true) := h.sublist List.filter_sublist
/-- What is left with a path has its home among what is left. -/
theorem rest_home {t : List En} (h : Fit t) {p : Bs} (hp : faultP p = 0) : ∀ x ∈ restE t p true, homeP (restE t p true) x.path = true := by
  intro x hx
  obtain ⟨hx, hn, hb⟩ := mem_rest.1 hx
  rw [homeP_iff]
  rcases homeP_iff.1 (h.home x hx) with h0 | ⟨d, hd, hdp, hdk⟩
  · exact .inl h0
  · by_cases h0 : parentP x.path = []
    · exact .inl h0
    · have hbx := (parent_above (h.path hx) h0).2
      rw [← hdp] at hbx
      refine .inr ⟨d, mem_rest.2 ⟨hd, fun e => ?_, ?_⟩, hdp, hdk⟩
      · rw [e, hb] at hbx; cases hbx
      · cases h3 : belowB d.path p
        · rfl
        · rw [below_trans hbx h3] at hb; cases hb
theorem rest_fit {t : List En} (h : Fit t) {p : Bs} (hp : faultP p = 0) : Fit (restE t p true) :=
  ⟨fun e he => h.ent e (mem_rest.1 he).1, rest_rise h.rise p, rest_home h hp⟩
theorem home_rest {t : List En} {p : Bs} (hp : faultP p = 0) (hh : homeP t p = true) : homeP (restE t p true) p = true := by
  rw [homeP_iff] at hh ⊢
  rcases hh with h0 | ⟨d, hd, hdp, hdk⟩
  · exact .inl h0
  · by_cases h0 : parentP p = []
    · exact .inl h0
    · have hb := (parent_above hp h0).2
      have hl := below_len hb
      refine .inr ⟨d, mem_rest.2 ⟨hd, fun e => ?_, ?_⟩, hdp, hdk⟩
      · rw [← hdp, e] at hl; omega
      · cases h3 : belowB d.path p
        · rfl
        · have := below_len h3; rw [hdp] at this; omega
/-- A right entry put in its place. -/
theorem fit_place {t : List En} {e : En} (h : Fit t) (he : entFault e = 0) (hh : homeP t e.path = true) : Fit (putAt (restE t e.path true) e) := by
  have hp := entFault_zero he
  have hr := rest_fit h hp
  have hn : ∀ x ∈ restE t e.path true, x.path ≠ e.path := fun x hx => (mem_rest.1 hx).2.1
  have hmono : ∀ q, homeP (restE t e.path true) q = true → homeP (putAt (restE t e.path true) e) q = true := by
    intro q hq
    rw [homeP_iff] at hq ⊢
    rcases hq with h0 | ⟨d, hd, hd2⟩
    · exact .inl h0
    · exact .inr ⟨d, mem_putAt.2 (.inr hd), hd2⟩
  refine ⟨fun x hx => ?_, rise_putAt hr.rise hn, fun x hx => ?_⟩
  · rcases mem_putAt.1 hx with rfl | hx
    · exact he
    · exact hr.ent x hx
  · rcases mem_putAt.1 hx with rfl | hx
    · exact hmono _ (home_rest hp hh)
    · exact hmono _ (hr.home x hx)
theorem find_place (t : List En) (e : En) (q : Bs) : findE (putAt (restE t e.path true) e) q = if q = e.path then some e else if belowB q e.path then none else findE t q := by
  rw [find_putAt (fun x hx => (mem_rest.1 hx).2.1), find_rest]
  by_cases h : q = e.path
  · simp [h]
  · simp [h]

/-- How an entry of a layer stands in a tree. -/
def asT (e : En) : En := if e.kind = 4 then kindE e 2 else e
theorem asT_path (e : En) : (asT e).path = e.path := by unfold asT; split <;> rfl
theorem asT_ent {e : En} (h : entFault e = 0) : entFault (asT e) = 0 := by
  unfold asT
  split
  · rename_i h4
    exact ent_kind h (.inl (by omega)) (by decide) (by decide)
  · exact h
theorem asT_kind {e : En} (h : entFault e = 0) (h3 : e.kind ≠ 3) : treeK (asT e).kind = true := by
  unfold asT
  rcases ent_kinds h with h1 | h1 | h1 | h1
  · simp [h1, treeK]
  · simp [h1, treeK]
  · exact absurd h1 h3
  · simp [h1, treeK, kindE]
theorem asT_dir {e : En} (hk : dirK e.kind = true) : (asT e).kind = 2 := by
  simp only [dirK, decide_eq_true_eq] at hk
  unfold asT
  rcases hk with hk | hk <;> simp [hk, kindE]
/-- All directories of one path are one in a tree. -/
theorem asT_one {d e : En} (h1 : entFault d = 0) (h2 : entFault e = 0) (hp : d.path = e.path) (hd : dirK d.kind = true) (he : dirK e.kind = true) : asT d = asT e := by
  refine dir_one (asT_ent h1) (asT_ent h2) (by rw [asT_path, asT_path, hp]) (by rw [asT_dir hd, asT_dir he]) (by rw [asT_dir he]; decide)
/-- An entry of a layer laid over a tree. -/
def overE (t : List En) (e : En) : List En :=
  if e.kind = 3 then restE t e.path true else if e.kind = 2 ∧ hasDir t e.path = true then t else putAt (restE t e.path true) (asT e)
def mergeE (t L : List En) : List En := L.foldl overE t
theorem hasDir_iff {t : List En} {p : Bs} : hasDir t p = true ↔ ∃ d ∈ t, d.path = p ∧ dirK d.kind = true := by
  simp [hasDir]
theorem hasDir_not {t : List En} {p : Bs} (h : ¬ hasDir t p = true) : ∀ d ∈ t, d.path = p → dirK d.kind = false := by
  intro d hd hp
  cases hk : dirK d.kind
  · rfl
  · exact absurd (hasDir_iff.2 ⟨d, hd, hp, hk⟩) h
theorem FitT.dir {t : List En} (h : FitT t) {d : En} (hd : d ∈ t) (hk : dirK d.kind = true) : d.kind = 2 := by
  have h1 := h.kind d hd
  simp only [treeK, dirK, decide_eq_true_eq] at h1 hk
  omega
theorem place_asT (t : List En) (e : En) : putAt (restE t e.path true) (asT e) = putAt (restE t (asT e).path true) (asT e) := by rw [asT_path]
theorem find_over {t : List En} {e : En} (h : FitT t) (he : entFault e = 0) (q : Bs) :
    findE (overE t e) q = if q = e.path then (if e.kind = 3 then none else some (asT e)) else if (!decide (e.kind = 2)) && belowB q e.path then none else findE t q := by
  have hp := entFault_zero he
  unfold overE
  by_cases h3 : e.kind = 3
  · rw [if_pos h3, find_rest]
    have : (!decide (e.kind = 2)) = true := by simp [h3]
    rw [this, Bool.true_and, if_pos h3]
  · rw [if_neg h3, if_neg h3]
    by_cases hd : e.kind = 2 ∧ hasDir t e.path = true
    · rw [if_pos hd]
      have e1 : (!decide (e.kind = 2)) = false := by simp [hd.1]
      rw [e1, Bool.false_and, if_neg Bool.false_ne_true]
      by_cases hq : q = e.path
      · rw [if_pos hq]
        obtain ⟨d, hdm, hdp, hdk⟩ := hasDir_iff.1 hd.2
        have h2 := h.dir hdm hdk
        have e2 : asT e = e := by unfold asT; rw [if_neg (by omega)]
        rw [hq, ← hdp, rise_find h.fit.rise hdm, e2, dir_one (h.fit.ent d hdm) he hdp (by rw [h2, hd.1]) (by omega)]
      · rw [if_neg hq]
    · rw [if_neg hd, place_asT, find_place, asT_path]
      by_cases hq : q = e.path
      · rw [if_pos hq, if_pos hq]
      · rw [if_neg hq, if_neg hq]
        by_cases h2 : e.kind = 2
        · have e1 : (!decide (e.kind = 2)) = false := by simp [h2]
          rw [e1, Bool.false_and, if_neg Bool.false_ne_true]
          cases hb : belowB q e.path
          · simp
          · rw [if_pos rfl]
            exact (h.fit.bare_find hp (hasDir_not (fun x => hd ⟨h2, x⟩)) hb).symm
        · have e1 : (!decide (e.kind = 2)) = true := by simp [h2]
          rw [e1, Bool.true_and]
theorem fitT_over {t : List En} {e : En} (h : FitT t) (he : entFault e = 0) (hh : homeP t e.path = true) : FitT (overE t e) := by
  have hp := entFault_zero he
  unfold overE
  by_cases h3 : e.kind = 3
  · rw [if_pos h3]
    exact ⟨rest_fit h.fit hp, fun x hx => h.kind x (mem_rest.1 hx).1⟩
  · rw [if_neg h3]
    by_cases hd : e.kind = 2 ∧ hasDir t e.path = true
    · rw [if_pos hd]; exact h
    · rw [if_neg hd, place_asT]
      refine ⟨fit_place h.fit (asT_ent he) (by rw [asT_path]; exact hh), fun x hx => ?_⟩
      rcases mem_putAt.1 hx with rfl | hx
      · exact asT_kind he h3
      · exact h.kind x (mem_rest.1 hx).1
theorem putAt_length (bs : List En) (e : En) : (putAt bs e).length = bs.length + 1 := by
  unfold putAt
  simp only [List.length_append, List.length_cons, List.length_take, List.length_drop]
  omega
theorem over_len (t : List En) (e : En) : (overE t e).length ≤ t.length + 1 := by
  have := restE_len t e.path true
  unfold overE
  split
  · omega
  · split
    · omega
    · rw [putAt_length]; omega
theorem merge_len : ∀ (L t : List En), (mergeE t L).length ≤ t.length + L.length
  | [], t => by simp [mergeE]
  | e :: L, t => by
    have h1 := merge_len L (overE t e)
    have h2 := over_len t e
    have h3 : mergeE t (e :: L) = mergeE (overE t e) L := rfl
    rw [h3, List.length_cons]
    omega
/-- Is a path below an entry that hides what is below? -/
def hid (L : List En) (q : Bs) : Bool := L.any fun e => (!decide (e.kind = 2)) && belowB q e.path
theorem hid_snoc (D : List En) (e : En) (q : Bs) : hid (D ++ [e]) q = (hid D q || ((!decide (e.kind = 2)) && belowB q e.path)) := by
  simp [hid, List.any_append]
theorem hid_iff {L : List En} {q : Bs} : hid L q = true ↔ ∃ e ∈ L, e.kind ≠ 2 ∧ belowB q e.path = true := by
  simp [hid]
/-- What is seen at a path of a layer over a tree. -/
def seeT (t L : List En) (q : Bs) : Option En :=
  match findE L q with
  | some e => if e.kind = 3 then none else some (asT e)
  | none => if hid L q then none else findE t q
theorem seeT_some {t L : List En} {q : Bs} {e : En} (h : findE L q = some e) : seeT t L q = if e.kind = 3 then none else some (asT e) := by simp [seeT, h]
theorem seeT_none {t L : List En} {q : Bs} (h : findE L q = none) : seeT t L q = if hid L q then none else findE t q := by simp [seeT, h]
/-- The entry at place k of a layer: all ahead of it is lower, and its home is ahead of it. -/
theorem lay_step {L : List En} {k : Nat} {e : En} (hL : Fit L) (he : L[k]? = some e) :
    (∀ x ∈ L.take k, Op.bytesLess x.path e.path = true) ∧ (parentP e.path = [] ∨ ∃ d ∈ L.take k, d.path = parentP e.path ∧ dirK d.kind = true) := by
  have hem := List.mem_of_getElem? he
  obtain ⟨hk, hke⟩ := List.getElem?_eq_some_iff.1 he
  have hs : L = L.take k ++ e :: L.drop (k + 1) := by
    conv => lhs; rw [← List.take_append_drop k L, List.drop_eq_getElem_cons hk, hke]
  have hr := hL.rise
  unfold Rise at hr
  rw [hs, List.pairwise_append] at hr
  refine ⟨fun x hx => hr.2.2 x hx e List.mem_cons_self, ?_⟩
  rcases homeP_iff.1 (hL.home e hem) with h0 | ⟨d, hd, hdp, hdk⟩
  · exact .inl h0
  · by_cases h0 : parentP e.path = []
    · exact .inl h0
    · have hb := below_less (parent_above (hL.path hem) h0).2
      rw [← hdp] at hb
      rw [hs] at hd
      rcases List.mem_append.1 hd with hd | hd
      · exact .inr ⟨d, hd, hdp, hdk⟩
      · exfalso
        rcases List.mem_cons.1 hd with rfl | hd
        · rw [bl_irrefl] at hb; cases hb
        · have := bl_asymm ((List.pairwise_cons.1 hr.2.1).1 d hd)
          rw [hb] at this; cases this
theorem take_next {L : List En} {k : Nat} {e : En} (he : L[k]? = some e) : L.take (k + 1) = L.take k ++ [e] := by
  rw [List.take_add_one, he]; rfl
theorem merge_view {t L : List En} (ht : FitT t) (hL : Fit L) : ∀ k, k ≤ L.length → FitT (mergeE t (L.take k)) ∧ ∀ q, findE (mergeE t (L.take k)) q = seeT t (L.take k) q
  | 0, _ => by
    refine ⟨by simpa [mergeE] using ht, fun q => ?_⟩
    simp [mergeE, seeT, findE, hid]
  | k + 1, hk => by
    obtain ⟨e, he⟩ : ∃ e, L[k]? = some e := ⟨_, List.getElem?_eq_getElem (by omega)⟩
    obtain ⟨ih1, ih2⟩ := merge_view ht hL k (by omega)
    obtain ⟨hlt, hho⟩ := lay_step hL he
    have hee := hL.ent e (List.mem_of_getElem? he)
    have hrD : Rise (L.take k) := hL.rise.sublist (List.take_sublist _ _)
    have hne : ∀ x ∈ L.take k, x.path ≠ e.path := fun x hx => bl_ne (hlt x hx)
    have hm : mergeE t (L.take (k + 1)) = overE (mergeE t (L.take k)) e := by rw [take_next he]; simp [mergeE, List.foldl_append]
    rw [hm, take_next he]
    generalize L.take k = D at *
    have hhome : homeP (mergeE t D) e.path = true := by
      rw [homeP_iff]
      rcases hho with h0 | ⟨d, hd, hdp, hdk⟩
      · exact .inl h0
      · have h1 := ih2 d.path
        rw [seeT_some (rise_find hrD hd)] at h1
        have hd3 : d.kind ≠ 3 := by intro e3; rw [e3] at hdk; cases hdk
        rw [if_neg hd3] at h1
        exact .inr ⟨asT d, (find_mem h1).1, by rw [asT_path, hdp], by rw [asT_dir hdk]; rfl⟩
    refine ⟨fitT_over ih1 hee hhome, fun q => ?_⟩
    rw [find_over ih1 hee, ih2 q]
    by_cases hq : q = e.path
    · rw [if_pos hq, seeT_some (e := e) (by rw [find_snoc hne, if_pos hq])]
    · rw [if_neg hq]
      have hf : findE (D ++ [e]) q = findE D q := by rw [find_snoc hne, if_neg hq]
      cases hD : findE D q with
      | some x =>
        have hx := find_mem hD
        have hb := not_below_of_less (hlt x hx.1)
        rw [hx.2] at hb
        rw [hb, Bool.and_false, if_neg (by simp), seeT_some hD, seeT_some (hf.trans hD)]
      | none =>
        rw [seeT_none hD, seeT_none (hf.trans hD), hid_snoc]
        cases (!decide (e.kind = 2)) && belowB q e.path <;> cases hid D q <;> simp
theorem merge_fit {t L : List En} (ht : FitT t) (hL : Fit L) : FitT (mergeE t L) := by
  have := (merge_view ht hL L.length (Nat.le_refl _)).1
  rwa [List.take_length] at this
theorem merge_find {t L : List En} (ht : FitT t) (hL : Fit L) (q : Bs) : findE (mergeE t L) q = seeT t L q := by
  have := (merge_view ht hL L.length (Nat.le_refl _)).2 q
  rwa [List.take_length] at this

/-- What an entry of a higher layer comes to over what a lower one has at its path. -/
def squV (o : Option En) (e : En) : En :=
  if e.kind = 2 then
    (match o with
    | some d => if dirK d.kind then d else kindE e 4
    | none => e)
  else e
theorem squV_none (e : En) : squV none e = e := by unfold squV; split <;> rfl
theorem squV_not {o : Option En} {e : En} (h : e.kind ≠ 2) : squV o e = e := by simp [squV, h]
theorem squV_dir {d e : En} (h : e.kind = 2) (hd : dirK d.kind = true) : squV (some d) e = d := by simp [squV, h, hd]
theorem squV_file {d e : En} (h : e.kind = 2) (hd : dirK d.kind = false) : squV (some d) e = kindE e 4 := by simp [squV, h, hd]
/-- An entry of a higher layer laid over a lower one. -/
def squE (l : List En) (e : En) : List En := if e.kind = 2 ∧ hasDir l e.path = true then l else putAt (restE l e.path true) (squV (findE l e.path) e)
def squashE (l h : List En) : List En := h.foldl squE l
theorem squV_path {l : List En} (e : En) : (squV (findE l e.path) e).path = e.path := by
  unfold squV
  split
  · split
    · rename_i d hd
      split
      · exact (find_mem hd).2
      · rfl
    · rfl
  · rfl
theorem squV_ent {l : List En} {e : En} (h : Fit l) (he : entFault e = 0) : entFault (squV (findE l e.path) e) = 0 := by
  unfold squV
  split
  · rename_i h2
    split
    · rename_i d hd
      split
      · exact h.ent d (find_mem hd).1
      · exact ent_kind he (.inl (by omega)) (by decide) (by decide)
    · exact he
  · exact he
theorem squ_dir {l : List En} (h : Fit l) {e : En} (hd : hasDir l e.path = true) : ∃ d, findE l e.path = some d ∧ d ∈ l ∧ dirK d.kind = true := by
  obtain ⟨d, hdm, hdp, hdk⟩ := hasDir_iff.1 hd
  exact ⟨d, by rw [← hdp]; exact rise_find h.rise hdm, hdm, hdk⟩
theorem find_squ {l : List En} {e : En} (h : Fit l) (he : entFault e = 0) (q : Bs) :
    findE (squE l e) q = if q = e.path then some (squV (findE l e.path) e) else if (!decide (e.kind = 2)) && belowB q e.path then none else findE l q := by
  have hp := entFault_zero he
  unfold squE
  by_cases hd : e.kind = 2 ∧ hasDir l e.path = true
  · rw [if_pos hd]
    obtain ⟨d, hf, hdm, hdk⟩ := squ_dir h hd.2
    have e1 : (!decide (e.kind = 2)) = false := by simp [hd.1]
    rw [e1, Bool.false_and, if_neg Bool.false_ne_true]
    by_cases hq : q = e.path
    · rw [if_pos hq, hq, hf, squV_dir hd.1 hdk]
    · rw [if_neg hq]
  · have e0 := find_place l (squV (findE l e.path) e) q
    rw [squV_path] at e0
    rw [if_neg hd, e0]
    by_cases hq : q = e.path
    · rw [if_pos hq, if_pos hq]
    · rw [if_neg hq, if_neg hq]
      by_cases h2 : e.kind = 2
      · have e1 : (!decide (e.kind = 2)) = false := by simp [h2]
        rw [e1, Bool.false_and, if_neg Bool.false_ne_true]
        cases hb : belowB q e.path
        · simp
        · rw [if_pos rfl]
          exact (h.bare_find hp (hasDir_not (fun x => hd ⟨h2, x⟩)) hb).symm
      · have e1 : (!decide (e.kind = 2)) = true := by simp [h2]
        rw [e1, Bool.true_and]
theorem fit_squ {l : List En} {e : En} (h : Fit l) (he : entFault e = 0) (hh : homeP l e.path = true) : Fit (squE l e) := by
  unfold squE
  by_cases hd : e.kind = 2 ∧ hasDir l e.path = true
  · rw [if_pos hd]; exact h
  · rw [if_neg hd]
    have := fit_place h (squV_ent h he) (by rw [squV_path]; exact hh)
    rwa [squV_path] at this
/-- What a layer that is made of two has at a path. -/
def seeS (low high : List En) (q : Bs) : Option En :=
  match findE high q with
  | some e => some (squV (if hid high q then none else findE low q) e)
  | none => if hid high q then none else findE low q
theorem seeS_some {low high : List En} {q : Bs} {e : En} (h : findE high q = some e) : seeS low high q = some (squV (if hid high q then none else findE low q) e) := by simp [seeS, h]
theorem seeS_none {low high : List En} {q : Bs} (h : findE high q = none) : seeS low high q = if hid high q then none else findE low q := by simp [seeS, h]
theorem squV_dirK {o : Option En} {e : En} (h : dirK e.kind = true) : dirK (squV o e).kind = true := by
  unfold squV
  split
  · split
    · rename_i d
      by_cases hd : dirK d.kind = true
      · rw [if_pos hd]; exact hd
      · rw [if_neg hd]; rfl
    · exact h
  · exact h
theorem squash_view {low high : List En} (hl : Fit low) (hh : Fit high) : ∀ k, k ≤ high.length → Fit (squashE low (high.take k)) ∧ ∀ q, findE (squashE low (high.take k)) q = seeS low (high.take k) q
  | 0, _ => by
    refine ⟨by simpa [squashE] using hl, fun q => ?_⟩
    simp [squashE, seeS, findE, hid]
  | k + 1, hk => by
    obtain ⟨e, he⟩ : ∃ e, high[k]? = some e := ⟨_, List.getElem?_eq_getElem (by omega)⟩
    obtain ⟨ih1, ih2⟩ := squash_view hl hh k (by omega)
    obtain ⟨hlt, hho⟩ := lay_step hh he
    have hee := hh.ent e (List.mem_of_getElem? he)
    have hrD : Rise (high.take k) := hh.rise.sublist (List.take_sublist _ _)
    have hne : ∀ x ∈ high.take k, x.path ≠ e.path := fun x hx => bl_ne (hlt x hx)
    have hm : squashE low (high.take (k + 1)) = squE (squashE low (high.take k)) e := by rw [take_next he]; simp [squashE, List.foldl_append]
    rw [hm, take_next he]
    generalize high.take k = D at *
    have hhome : homeP (squashE low D) e.path = true := by
      rw [homeP_iff]
      rcases hho with h0 | ⟨d, hd, hdp, hdk⟩
      · exact .inl h0
      · have h1 := ih2 d.path
        rw [seeS_some (rise_find hrD hd)] at h1
        have h2 := find_mem h1
        exact .inr ⟨_, h2.1, h2.2.trans hdp, squV_dirK hdk⟩
    refine ⟨fit_squ ih1 hee hhome, fun q => ?_⟩
    rw [find_squ ih1 hee, ih2 q]
    by_cases hq : q = e.path
    · have hD : findE D e.path = none := find_none hne
      have hs : findE (D ++ [e]) q = some e := by rw [find_snoc hne, if_pos hq]
      rw [if_pos hq, seeS_some hs, hid_snoc, ih2 e.path, seeS_none hD, hq, below_irrefl, Bool.and_false, Bool.or_false]
    · rw [if_neg hq]
      have hf : findE (D ++ [e]) q = findE D q := by rw [find_snoc hne, if_neg hq]
      cases hD : findE D q with
      | some x =>
        have hx := find_mem hD
        have hb := not_below_of_less (hlt x hx.1)
        rw [hx.2] at hb
        rw [hb, Bool.and_false, if_neg (by simp), seeS_some hD, seeS_some (hf.trans hD), hid_snoc, hb, Bool.and_false, Bool.or_false]
      | none =>
        rw [seeS_none hD, seeS_none (hf.trans hD), hid_snoc]
        cases (!decide (e.kind = 2)) && belowB q e.path <;> cases hid D q <;> simp
theorem squash_fit {low high : List En} (hl : Fit low) (hh : Fit high) : Fit (squashE low high) := by
  have := (squash_view hl hh high.length (Nat.le_refl _)).1
  rwa [List.take_length] at this
theorem squash_find {low high : List En} (hl : Fit low) (hh : Fit high) (q : Bs) : findE (squashE low high) q = seeS low high q := by
  have := (squash_view hl hh high.length (Nat.le_refl _)).2 q
  rwa [List.take_length] at this
/-- A layer that is made of two hides below a path what both hide. -/
theorem squash_hid {low high : List En} (hl : Fit low) (hh : Fit high) {q : Bs} : hid (squashE low high) q = (hid high q || hid low q) := by
  have hS := squash_fit hl hh
  have hv := squash_find hl hh
  rw [Bool.eq_iff_iff, Bool.or_eq_true, hid_iff]
  constructor
  · rintro ⟨s, hs, hk, hb⟩
    by_cases hH : hid high q = true
    · exact .inl hH
    · refine .inr ?_
      have h1 := rise_find hS.rise hs
      rw [hv] at h1
      cases hf : findE high s.path with
      | none =>
        rw [seeS_none hf] at h1
        by_cases hx : hid high s.path = true
        · rw [if_pos hx] at h1; cases h1
        · rw [if_neg hx] at h1
          exact hid_iff.2 ⟨s, (find_mem h1).1, hk, hb⟩
      | some e =>
        obtain ⟨hem, hep⟩ := find_mem hf
        have he2 : e.kind = 2 := by
          by_cases h2 : e.kind = 2
          · exact h2
          · exact absurd (hid_iff.2 ⟨e, hem, h2, by rw [hep]; exact hb⟩) hH
        rw [seeS_some hf] at h1
        have h2 := Option.some.inj h1
        cases ho : (if hid high s.path then none else findE low s.path) with
        | none =>
          rw [ho, squV_none] at h2
          rw [← h2] at hk
          exact absurd he2 hk
        | some d =>
          rw [ho] at h2
          have hd : findE low s.path = some d := by
            by_cases hx : hid high s.path = true
            · rw [if_pos hx] at ho; cases ho
            · rwa [if_neg hx] at ho
          have hdm := find_mem hd
          refine hid_iff.2 ⟨d, hdm.1, ?_, by rw [hdm.2]; exact hb⟩
          cases hdk : dirK d.kind
          · intro e2; rw [e2] at hdk; cases hdk
          · rw [squV_dir he2 hdk] at h2
            rw [h2]; exact hk
  · rintro (h | h)
    · obtain ⟨e, hem, hk, hb⟩ := hid_iff.1 h
      have hf := rise_find hh.rise hem
      have h1 := hv e.path
      rw [seeS_some hf, squV_not hk] at h1
      exact ⟨e, (find_mem h1).1, hk, hb⟩
    · by_cases hH : hid high q = true
      · obtain ⟨e, hem, hk, hb⟩ := hid_iff.1 hH
        have hf := rise_find hh.rise hem
        have h1 := hv e.path
        rw [seeS_some hf, squV_not hk] at h1
        exact ⟨e, (find_mem h1).1, hk, hb⟩
      · obtain ⟨d, hdm, hk, hb⟩ := hid_iff.1 h
        have hfd := rise_find hl.rise hdm
        have hnd : hid high d.path = false := by
          cases hx : hid high d.path
          · rfl
          · obtain ⟨e, hem, hk2, hb2⟩ := hid_iff.1 hx
            exact absurd (hid_iff.2 ⟨e, hem, hk2, below_trans hb hb2⟩) hH
        have h1 := hv d.path
        cases hf : findE high d.path with
        | none =>
          rw [seeS_none hf, hnd, if_neg (by simp), hfd] at h1
          exact ⟨d, (find_mem h1).1, hk, hb⟩
        | some e =>
          obtain ⟨hem, hep⟩ := find_mem hf
          have he2 : e.kind = 2 := by
            by_cases h2 : e.kind = 2
            · exact h2
            · exact absurd (hid_iff.2 ⟨e, hem, h2, by rw [hep]; exact hb⟩) hH
          rw [seeS_some hf, hnd, if_neg (by simp), hfd] at h1
          cases hdk : dirK d.kind
          · rw [squV_file he2 hdk] at h1
            exact ⟨_, (find_mem h1).1, by show (4 : Int) ≠ 2; decide, by show belowB q e.path = true; rw [hep]; exact hb⟩
          · rw [squV_dir he2 hdk] at h1
            exact ⟨d, (find_mem h1).1, hk, hb⟩
/-- Two layers that are made one do what they do one behind the other. -/
theorem squash_merge {t low high : List En} (ht : FitT t) (hl : Fit low) (hh : Fit high) : mergeE t (squashE low high) = mergeE (mergeE t low) high := by
  have hS := squash_fit hl hh
  have hm := merge_fit ht hl
  refine rise_ext (merge_fit ht hS).fit.rise (merge_fit hm hh).fit.rise (fun q => ?_)
  rw [merge_find ht hS, merge_find hm hh]
  cases hf : findE high q with
  | some e =>
    obtain ⟨hem, hep⟩ := find_mem hf
    have hs := squash_find hl hh q
    rw [seeS_some hf] at hs
    rw [seeT_some hs, seeT_some hf]
    by_cases h2 : e.kind = 2
    · have hd2 : dirK e.kind = true := by rw [h2]; rfl
      have hk := squV_dirK (o := if hid high q then none else findE low q) hd2
      have hm2 := find_mem hs
      have h3 : (squV (if hid high q then none else findE low q) e).kind ≠ 3 := by intro e3; rw [e3] at hk; cases hk
      rw [if_neg h3, if_neg (show ¬ e.kind = 3 by omega)]
      rw [asT_one (hS.ent _ hm2.1) (hh.ent e hem) (hm2.2.trans hep.symm) hk hd2]
    · rw [squV_not h2]
  | none =>
    have hs := squash_find hl hh q
    rw [seeS_none hf] at hs
    rw [seeT_none hf]
    cases hH : hid high q
    · rw [hH, if_neg (by simp)] at hs
      rw [if_neg (by simp), merge_find ht hl]
      cases hlq : findE low q with
      | some d => rw [seeT_some (hs.trans hlq), seeT_some hlq]
      | none => rw [seeT_none (hs.trans hlq), seeT_none hlq, squash_hid hl hh, hH, Bool.false_or]
    · rw [hH, if_pos rfl] at hs
      rw [if_pos rfl, seeT_none hs, squash_hid hl hh, hH, Bool.true_or, if_pos rfl]
theorem squ_len (l : List En) (e : En) : (squE l e).length ≤ l.length + 1 := by
  have := restE_len l e.path true
  unfold squE
  split
  · omega
  · rw [putAt_length]; omega
theorem squash_len : ∀ (h l : List En), (squashE l h).length ≤ l.length + h.length
  | [], l => by simp [squashE]
  | e :: h, l => by
    have h1 := squash_len h (squE l e)
    have h2 := squ_len l e
    have h3 : squashE l (e :: h) = squashE (squE l e) h := rfl
    rw [h3, List.length_cons]
    omega
end Go.Proofs.YtjkmbicedbdifaaGreat

namespace Go.Proofs.YtjkmbicedbdifaaGreat
set_option linter.unusedVariables false

/-- Does the layer's entry of that path hide what is below it? -/
def hideAt (es : List En) (q : Bs) : Bool := (findE es q).any fun e => !decide (e.kind = 2)
def hideUp (es : List En) (p : Bs) : Bool := (above p).any (hideAt es)
def hidesE (es : List En) (p : Bs) : Bool := hideAt es p || hideUp es p
/-- What HidesBelow answers. -/
def hidB (es : List En) (p : Bs) : Bool := decide (askP es p = 0) && hidesE es p

/-- How the model counts an entry: 2, 1, 0. -/
def rankE (es : List En) (q : Bs) : Int :=
  match findE es q with
  | some e => if e.kind = 3 ∨ e.kind = 1 then 2 else if e.kind = 4 then 1 else 0
  | none => 0
def overN (es : List En) (ups : List Bs) : Int := if ups.any (fun u => decide (rankE es u = 2)) then 2 else if ups.any (fun u => decide (rankE es u = 1)) then 1 else 0
def hidN (es : List En) (p : Bs) : Int := if overN es (above p) = 2 ∨ rankE es p = 2 then 2 else if overN es (above p) = 1 ∨ rankE es p = 1 then 1 else 0

theorem rank_none {es : List En} {q : Bs} (h : findE es q = none) : rankE es q = 0 := by simp [rankE, h]
theorem rank_two {es : List En} {q : Bs} {e : En} (h : findE es q = some e) (hk : e.kind = 3 ∨ e.kind = 1) : rankE es q = 2 := by simp only [rankE, h]; rw [if_pos hk]
theorem rank_one {es : List En} {q : Bs} {e : En} (h : findE es q = some e) (hk : e.kind = 4) : rankE es q = 1 := by simp [rankE, h, hk]
theorem rank_dir {es : List En} {q : Bs} {e : En} (h : findE es q = some e) (h1 : e.kind ≠ 1) (h3 : e.kind ≠ 3) (h4 : e.kind ≠ 4) : rankE es q = 0 := by simp [rankE, h, h1, h3, h4]
theorem rank_hide {es : List En} (h : Right es) (q : Bs) : hideAt es q = decide (rankE es q ≠ 0) := by
  cases hf : findE es q with
  | none => simp [hideAt, rankE, hf]
  | some e =>
    have he := (find_mem hf).1
    rcases ent_kinds (h.ent e he) with hk | hk | hk | hk <;> simp [hideAt, rankE, hf, hk]
theorem rank_cases (es : List En) (q : Bs) : rankE es q = 0 ∨ rankE es q = 1 ∨ rankE es q = 2 := by
  unfold rankE
  split
  · split
    · exact Or.inr (Or.inr rfl)
    · split
      · exact Or.inr (Or.inl rfl)
      · exact Or.inl rfl
  · exact Or.inl rfl
theorem over_cases (es : List En) (ups : List Bs) : overN es ups = 0 ∨ overN es ups = 1 ∨ overN es ups = 2 := by
  unfold overN
  split
  · exact Or.inr (Or.inr rfl)
  · split
    · exact Or.inr (Or.inl rfl)
    · exact Or.inl rfl
theorem over_zero {es : List En} {ups : List Bs} : overN es ups ≠ 0 ↔ ∃ u ∈ ups, rankE es u ≠ 0 := by
  unfold overN
  constructor
  · intro h
    split at h
    · rename_i h2
      obtain ⟨u, hu, hr⟩ := List.any_eq_true.1 h2
      exact ⟨u, hu, by have := of_decide_eq_true hr; omega⟩
    · split at h
      · rename_i h2
        obtain ⟨u, hu, hr⟩ := List.any_eq_true.1 h2
        exact ⟨u, hu, by have := of_decide_eq_true hr; omega⟩
      · exact absurd rfl h
  · rintro ⟨u, hu, hr⟩
    rcases rank_cases es u with h | h | h
    · exact absurd h hr
    · split
      · omega
      · rw [if_pos (List.any_eq_true.2 ⟨u, hu, decide_eq_true h⟩)]; omega
    · rw [if_pos (List.any_eq_true.2 ⟨u, hu, decide_eq_true h⟩)]; omega
theorem hidN_pos {es : List En} (h : Right es) (p : Bs) : decide (0 < hidN es p) = hidesE es p := by
  have h1 : hideUp es p = decide (overN es (above p) ≠ 0) := by
    rw [Bool.eq_iff_iff, decide_eq_true_iff, over_zero]
    unfold hideUp
    rw [List.any_eq_true]
    constructor
    · rintro ⟨u, hu, hr⟩
      rw [rank_hide h] at hr
      exact ⟨u, hu, of_decide_eq_true hr⟩
    · rintro ⟨u, hu, hr⟩
      exact ⟨u, hu, by rw [rank_hide h]; exact decide_eq_true hr⟩
  unfold hidesE
  rw [h1, rank_hide h]
  unfold hidN
  rcases over_cases es (above p) with h2 | h2 | h2 <;> rcases rank_cases es p with h3 | h3 | h3 <;> simp [h2, h3]
/-- One step of the model's loop. -/
theorem over_take_two {es : List En} {ups : List Bs} {k : Nat} {u : Bs} (hu : ups[k]? = some u) (h : rankE es u = 2) : overN es ups = 2 := by
  unfold overN
  rw [if_pos (List.any_eq_true.2 ⟨u, List.mem_of_getElem? hu, decide_eq_true h⟩)]
theorem take_at {α : Type} {l : List α} {k : Nat} {x : α} (h : l[k]? = some x) : l.take (k + 1) = l.take k ++ [x] := by rw [List.take_add_one, h]; rfl
theorem over_take {es : List En} {ups : List Bs} {k : Nat} {u : Bs} (hu : ups[k]? = some u) (h2 : overN es (ups.take k) ≠ 2) (h : rankE es u ≠ 2) : overN es (ups.take (k + 1)) = if rankE es u = 1 then 1 else overN es (ups.take k) := by
  rw [take_at hu]
  unfold overN at h2 ⊢
  simp only [List.any_append, List.any_cons, List.any_nil, Bool.or_false, h, decide_false]
  split at h2
  · exact absurd rfl h2
  · rename_i h3
    simp only [h3, Bool.false_eq_true, if_false]
    by_cases h4 : rankE es u = 1
    · simp [h4]
    · simp [h4]
theorem over_take_ne {es : List En} {ups : List Bs} {k : Nat} {u : Bs} (hu : ups[k]? = some u) (h2 : overN es (ups.take k) ≠ 2) (h : rankE es u ≠ 2) : overN es (ups.take (k + 1)) ≠ 2 := by
  rw [over_take hu h2 h]
  split
  · omega
  · exact h2
theorem askP_right {es : List En} {p : Bs} (h : askP es p = 0) : Right es ∧ faultP p = 0 := by
  unfold askP at h
  split at h
  · rename_i h1; exact ⟨right_P.1 h1, h⟩
  · rename_i h1; exact absurd h h1
theorem askP_of {es : List En} {p : Bs} (h : Right es) (hp : faultP p = 0) : askP es p = 0 := by
  unfold askP
  rw [if_pos (right_P.2 h)]; exact hp
theorem hidB_good {es : List En} {p : Bs} (h : askP es p = 0) : hidB es p = hidesE es p := by simp [hidB, h]
theorem hidB_bad {es : List En} {p : Bs} (h : askP es p ≠ 0) : hidB es p = false := by simp [hidB, h]
/-- What a layer hides, said by 'hid'. -/
theorem hides_iff {es : List En} (h : Right es) {p : Bs} (hp : faultP p = 0) : hidesE es p = true ↔ ∃ e ∈ es, e.kind ≠ 2 ∧ (e.path = p ∨ belowB p e.path = true) := by
  have hat : ∀ q, hideAt es q = true ↔ ∃ e ∈ es, e.kind ≠ 2 ∧ e.path = q := fun q => by
    constructor
    · intro hq
      cases hf : findE es q with
      | none => simp [hideAt, hf] at hq
      | some e =>
        obtain ⟨he, hpq⟩ := find_mem hf
        simp [hideAt, hf] at hq
        exact ⟨e, he, hq, hpq⟩
    · rintro ⟨e, he, hk, rfl⟩
      simp [hideAt, rise_find h.rise he, hk]
  unfold hidesE hideUp
  rw [Bool.or_eq_true, hat, List.any_eq_true]
  constructor
  · rintro (⟨e, he, hk, hq⟩ | ⟨u, hu, hr⟩)
    · exact ⟨e, he, hk, Or.inl hq⟩
    · obtain ⟨e, he, hk, rfl⟩ := (hat u).1 hr
      have hb : isBelow p e.path = true := by simpa [isBelow] using hu
      rw [isBelow_good hp] at hb
      exact ⟨e, he, hk, Or.inr (of_decide_eq_true hb).2⟩
  · rintro ⟨e, he, hk, (hq | hq)⟩
    · exact Or.inl ⟨e, he, hk, hq⟩
    · refine Or.inr ⟨e.path, ?_, (hat _).2 ⟨e, he, hk, rfl⟩⟩
      have hb : isBelow p e.path = true := by rw [isBelow_good hp]; exact decide_eq_true ⟨entFault_zero (h.ent e he), hq⟩
      simpa [isBelow] using hb
end Go.Proofs.YtjkmbicedbdifaaGreat

namespace Go.Proofs.YtjkmbicedbdifaaGreat
open Go.RowKit Go.Maps
set_option linter.unusedVariables false
attribute [local go_sem ↓] Go.wp_at_zero Go.wp_at_succ

theorem find_at_none {es : List En} {p : Bs} (h : atE es p = none) : findE es p = none := by rw [atE_find, h]; rfl
theorem find_at_some {es : List En} {p : Bs} {k : Nat} (h : atE es p = some k) : ∃ e, es[k]? = some e ∧ findE es p = some e := by
  have hk := atE_lt h
  obtain ⟨e, he⟩ : ∃ e, es[k]? = some e := ⟨_, List.getElem?_eq_getElem hk⟩
  exact ⟨e, he, by rw [atE_find, h]; exact he⟩
theorem above_small {p : Bs} (hp : faultP p = 0) : ∀ u ∈ above p, u.length ≤ p.length := by
  intro u hu
  have hb : isBelow p u = true := by simpa [isBelow] using hu
  rw [isBelow_good hp] at hb
  have := below_len (of_decide_eq_true hb).2
  omega
set_option maxRecDepth 100000 in
set_option maxHeartbeats 6400000 in
theorem l8Over_any (a : Option Addr) (c n : Nat) (es : List En) (p : Bs) (w : World) (h : RdE w a es) (hn : n = es.length) (hl : es.length ≤ 1048576) (hp : faultP p = 0) (hpl : p.length ≤ 1048576) :
    Calls Tryz.prog 71 #[.slice a n c, .string (str p)] w fun r w' => r = .returned (.int .i64 (overN es (above p))) ∧ Below w.heap.size w w' := by
  subst hn
  have HR := hide h
  have hsz := str_size p
  have h1 : 1 ≤ (str p).size := faultP_pos (by rw [str_data]; exact hp)
  have HU := hide (show aboveN (cutB (str p).data.toList.tail) = above p from by rw [str_data, above_good hp])
  have HUl := hide (above_len p)
  clear h hp
  generalize above p = ups at *
  go_enter Tryz.func71, Tryz.ntmps71
  go_wp2_with fail
  refine (l3Above_any (str p) _ h1 (by omega)).mono ?_
  rintro r w1 ⟨v, rfl, ho, hb1⟩
  rw [HU.out] at ho
  obtain ⟨av, cv, rfl⟩ := ownsRow_shape ho
  have RU := hide (OwnS.reads ho)
  have B1 := hide hb1
  clear ho hb1 HU
  go_wp2_with fail
  go_loopw [5, 7] (fun v i wr => ∃ k : Nat, k ≤ ups.length ∧ v = .int .i64 (overN es (ups.take k)) ∧ i = .int .i64 k ∧ Hid (overN es (ups.take k) ≠ 2) ∧ Hid (Below w1.heap.size w1 wr)) (fun _ i _ => ups.length - (intOf i).toNat)
  case atStart => exact ⟨0, Nat.zero_le _, rfl, rfl, hide (by simp [overN]), hide (Below.refl _ _)⟩
  case round =>
    obtain ⟨k, hk, rfl, rfl, HN2, HW⟩ := hrel
    have hul := HUl.out
    by_cases hlt : k < ups.length
    · obtain ⟨b, off, rfl, hb, hc⟩ := (RU.out.below HW.out) (by intro e; simp [e] at hlt)
      have q0 := hc k hlt
      have hx : ups[k]? = some (ups.getD k []) := by rw [List.getD_eq_getElem?_getD, List.getElem?_eq_getElem hlt]; rfl
      clear hc
      generalize ups.getD k [] = u at *
      have HX := hide hx
      clear hx
      have HE := hide ((HR.out.below B1.out).below HW.out)
      have HAT := hide (l4At_any a c es.length es u wr HE.out rfl hl)
      cases ha : atE es u with
      | none =>
        have HZ := hide (over_take HX.out HN2.out (by rw [rank_none (find_at_none ha)]; decide))
        have HZ2 := hide (over_take_ne HX.out HN2.out (by rw [rank_none (find_at_none ha)]; decide))
        rw [rank_none (find_at_none ha)] at HZ
        rw [ha] at HAT
        have e1 : placeI none = -1 := rfl
        rw [e1] at HAT
        clear ha e1
        go_wp2_with fail
        refine HAT.out.mono ?_
        rintro r w2 ⟨rfl, rfl⟩
        clear q0
        go_wp2_with fail
        go_roundw
        case rel => exact ⟨k + 1, by omega, by rw [HZ.out]; rfl, by go_num, HZ2, HW⟩
        case measure => simp [intOf]; omega
      | some m =>
        obtain ⟨e, he, hf⟩ := find_at_some ha
        have hm := atE_lt ha
        rw [ha] at HAT
        have e1 : placeI (some m) = (m : Int) := rfl
        rw [e1] at HAT
        obtain ⟨bb, off2, e', x, cc, rfl, hb2, he', c0, c1, c2, c3, hr⟩ := HE.out.at hm
        have : e' = e := Option.some.inj (he'.symm.trans he)
        subst this
        have hk0 : ¬ (m : Int) < 0 := by omega
        have hk2 : (0 : Int) ≤ (m : Int) := by omega
        have hk1 : (m : Int) < (es.length : Int) := by omega
        clear ha e1 he he' hr c0 c2 c3
        by_cases h3 : e'.kind = 3
        · have HZ := hide (over_take_two HX.out (rank_two hf (Or.inl h3)))
          have h3' : (e'.kind == 3) = true := by simpa using h3
          clear h3 hf
          go_wp2_with fail
          refine HAT.out.mono ?_
          rintro r w2 ⟨rfl, rfl⟩
          go_wp2_with fail
          go_ret
          exact ⟨by rw [HZ.out]; rfl, below_next B1.out HW.out⟩
        · have h3' : (e'.kind == 3) = false := by simpa using h3
          by_cases h1k : e'.kind = 1
          · have HZ := hide (over_take_two HX.out (rank_two hf (Or.inr h1k)))
            have h1' : (e'.kind == 1) = true := by simpa using h1k
            clear h3 h1k hf
            go_wp2_with fail
            refine HAT.out.mono ?_
            rintro r w2 ⟨rfl, rfl⟩
            go_wp2_with fail
            go_ret
            exact ⟨by rw [HZ.out]; rfl, below_next B1.out HW.out⟩
          · have h1' : (e'.kind == 1) = false := by simpa using h1k
            by_cases h4 : e'.kind = 4
            · have hrk := rank_one hf h4
              have HZ := hide (over_take HX.out HN2.out (by rw [hrk]; decide))
              have HZ2 := hide (over_take_ne HX.out HN2.out (by rw [hrk]; decide))
              rw [hrk] at HZ
              have h4' : (e'.kind == 4) = true := by simpa using h4
              clear h3 h1k h4 hf hrk
              go_wp2_with fail
              refine HAT.out.mono ?_
              rintro r w2 ⟨rfl, rfl⟩
              go_wp2_with fail
              go_roundw
              case rel => exact ⟨k + 1, by omega, by rw [HZ.out]; rfl, by go_num, HZ2, HW⟩
              case measure => simp [intOf]; omega
            · have h4' : (e'.kind == 4) = false := by simpa using h4
              have hrk := rank_dir hf h1k h3 h4
              have HZ := hide (over_take HX.out HN2.out (by rw [hrk]; decide))
              have HZ2 := hide (over_take_ne HX.out HN2.out (by rw [hrk]; decide))
              rw [hrk] at HZ
              clear h3 h1k h4 hf hrk
              go_wp2_with fail
              refine HAT.out.mono ?_
              rintro r w2 ⟨rfl, rfl⟩
              go_wp2_with fail
              go_roundw
              case rel => exact ⟨k + 1, by omega, by rw [HZ.out]; rfl, by go_num, HZ2, HW⟩
              case measure => simp [intOf]; omega
    · have HE := hide (show ups.take k = ups from List.take_of_length_le (by omega))
      go_wp2_with fail
      go_ret
      exact ⟨by rw [HE.out]; rfl, below_next B1.out HW.out⟩
end Go.Proofs.YtjkmbicedbdifaaGreat

namespace Go.Proofs.YtjkmbicedbdifaaGreat
open Go.RowKit Go.Maps
set_option linter.unusedVariables false
attribute [local go_sem ↓] Go.wp_at_zero Go.wp_at_succ

set_option maxRecDepth 100000 in
set_option maxHeartbeats 6400000 in
theorem l8Hides_none (a : Option Addr) (c n : Nat) (es : List En) (p : Bs) (w : World) (h : RdE w a es) (hn : n = es.length) (hl : es.length ≤ 1048576) (hp : faultP p = 0) (hpl : p.length ≤ 1048576) (ha : atE es p = none) :
    Calls Tryz.prog 86 #[.slice a n c, .string (str p)] w fun r w' => r = .returned (.int .i64 (hidN es p)) ∧ Below w.heap.size w w' := by
  subst hn
  have HOV := hide (l8Over_any a c es.length es p w h rfl hl hp hpl)
  have HAT : Hid (∀ w', Below w.heap.size w w' → Calls Tryz.prog 72 #[.slice a es.length c, .string (str p)] w' fun r w2 => r = .returned (.int .i64 (-1)) ∧ w2 = w') := hide (fun w' hb => by have h1 := l4At_any a c es.length es p w' (h.below hb) rfl hl; rw [ha] at h1; exact h1)
  have h0 : p ≠ [] := by intro e; rw [e] at hp; simp [faultP] at hp
  have hs0 : ((str p).toList == []) = false := by rw [str_toList]; simp [h0]
  have hrk := rank_none (find_at_none ha)
  clear h ha h0
  rcases over_cases es (above p) with ho | ho | ho
  · have HZ := hide (show hidN es p = 0 by simp [hidN, ho, hrk])
    rw [ho] at HOV
    clear ho hrk hp
    go_enter Tryz.func86, Tryz.ntmps86
    go_wp2_with fail
    refine HOV.out.mono ?_
    rintro r w1 ⟨rfl, hb1⟩
    have B1 := hide hb1
    clear hb1
    go_wp2_with fail
    refine (HAT.out w1 B1.out).mono ?_
    rintro r w2 ⟨rfl, rfl⟩
    go_wp2_with fail
    go_ret
    exact ⟨by rw [HZ.out]; rfl, B1.out⟩
  · have HZ := hide (show hidN es p = 1 by simp [hidN, ho, hrk])
    rw [ho] at HOV
    clear ho hrk hp
    go_enter Tryz.func86, Tryz.ntmps86
    go_wp2_with fail
    refine HOV.out.mono ?_
    rintro r w1 ⟨rfl, hb1⟩
    have B1 := hide hb1
    clear hb1
    go_wp2_with fail
    refine (HAT.out w1 B1.out).mono ?_
    rintro r w2 ⟨rfl, rfl⟩
    go_wp2_with fail
    go_ret
    exact ⟨by rw [HZ.out]; rfl, B1.out⟩
  · have HZ := hide (show hidN es p = 2 by simp [hidN, ho, hrk])
    rw [ho] at HOV
    clear ho hrk hp
    go_enter Tryz.func86, Tryz.ntmps86
    go_wp2_with fail
    refine HOV.out.mono ?_
    rintro r w1 ⟨rfl, hb1⟩
    have B1 := hide hb1
    clear hb1
    go_wp2_with fail
    refine (HAT.out w1 B1.out).mono ?_
    rintro r w2 ⟨rfl, rfl⟩
    go_wp2_with fail
    go_ret
    exact ⟨by rw [HZ.out]; rfl, B1.out⟩
set_option maxRecDepth 100000 in
set_option maxHeartbeats 12800000 in
theorem l8Hides_some (a : Option Addr) (c n : Nat) (es : List En) (p : Bs) (m : Nat) (w : World) (h : RdE w a es) (hn : n = es.length) (hl : es.length ≤ 1048576) (hRi : Right es) (hp : faultP p = 0) (hpl : p.length ≤ 1048576) (ha : atE es p = some m) :
    Calls Tryz.prog 86 #[.slice a n c, .string (str p)] w fun r w' => r = .returned (.int .i64 (hidN es p)) ∧ Below w.heap.size w w' := by
  subst hn
  have HOV := hide (l8Over_any a c es.length es p w h rfl hl hp hpl)
  have HAT : Hid (∀ w', Below w.heap.size w w' → Calls Tryz.prog 72 #[.slice a es.length c, .string (str p)] w' fun r w2 => r = .returned (.int .i64 m) ∧ w2 = w') := hide (fun w' hb => by have h1 := l4At_any a c es.length es p w' (h.below hb) rfl hl; rw [ha] at h1; exact h1)
  have h0 : p ≠ [] := by intro e; rw [e] at hp; simp [faultP] at hp
  have hs0 : ((str p).toList == []) = false := by rw [str_toList]; simp [h0]
  obtain ⟨e, he, hf⟩ := find_at_some ha
  have hm := atE_lt ha
  obtain ⟨bb, off2, e', x, cc, rfl, hb2, he', c0, c1, c2, c3, hr⟩ := h.at hm
  have : e' = e := Option.some.inj (he'.symm.trans he)
  subst this
  have hkk := ent_kinds (hRi.ent e' (List.mem_of_getElem? he))
  have hk0 : ¬ (m : Int) < 0 := by omega
  have hk2 : (0 : Int) ≤ (m : Int) := by omega
  have hk1 : (m : Int) < (es.length : Int) := by omega
  clear h ha h0 he he' hr c0 c2 c3 hRi
  rcases hkk with hk | hk | hk | hk <;> rcases over_cases es (above p) with ho | ho | ho
  · have HZ := hide (show hidN es p = 2 by simp [hidN, ho, rankE, hf, hk])
    rw [ho] at HOV
    rw [hk] at c1
    clear ho hk hp hf
    go_enter Tryz.func86, Tryz.ntmps86
    go_wp2_with fail
    refine HOV.out.mono ?_
    rintro r w1 ⟨rfl, hb1⟩
    have B1 := hide hb1
    have c1' := (hb1.cell (p := ⟨bb, off2 + m * 4 + 1, none⟩) hb2).trans c1
    clear hb1 c1
    go_wp2_with fail
    refine (HAT.out w1 B1.out).mono ?_
    rintro r w2 ⟨rfl, rfl⟩
    go_wp2_with (go_at_call 93; refine (l4IsDir_any _ _ 1 _ c1').mono ?_; rintro r w3 ⟨rfl, rfl⟩; rw [show dirK 1 = false from rfl])
    go_ret
    exact ⟨by rw [HZ.out]; rfl, B1.out⟩
  · have HZ := hide (show hidN es p = 2 by simp [hidN, ho, rankE, hf, hk])
    rw [ho] at HOV
    rw [hk] at c1
    clear ho hk hp hf
    go_enter Tryz.func86, Tryz.ntmps86
    go_wp2_with fail
    refine HOV.out.mono ?_
    rintro r w1 ⟨rfl, hb1⟩
    have B1 := hide hb1
    have c1' := (hb1.cell (p := ⟨bb, off2 + m * 4 + 1, none⟩) hb2).trans c1
    clear hb1 c1
    go_wp2_with fail
    refine (HAT.out w1 B1.out).mono ?_
    rintro r w2 ⟨rfl, rfl⟩
    go_wp2_with (go_at_call 93; refine (l4IsDir_any _ _ 1 _ c1').mono ?_; rintro r w3 ⟨rfl, rfl⟩; rw [show dirK 1 = false from rfl])
    go_ret
    exact ⟨by rw [HZ.out]; rfl, B1.out⟩
  · have HZ := hide (show hidN es p = 2 by simp [hidN, ho, rankE, hf, hk])
    rw [ho] at HOV
    rw [hk] at c1
    clear ho hk hp hf
    go_enter Tryz.func86, Tryz.ntmps86
    go_wp2_with fail
    refine HOV.out.mono ?_
    rintro r w1 ⟨rfl, hb1⟩
    have B1 := hide hb1
    have c1' := (hb1.cell (p := ⟨bb, off2 + m * 4 + 1, none⟩) hb2).trans c1
    clear hb1 c1
    go_wp2_with fail
    refine (HAT.out w1 B1.out).mono ?_
    rintro r w2 ⟨rfl, rfl⟩
    go_wp2_with (go_at_call 93; refine (l4IsDir_any _ _ 1 _ c1').mono ?_; rintro r w3 ⟨rfl, rfl⟩; rw [show dirK 1 = false from rfl])
    go_ret
    exact ⟨by rw [HZ.out]; rfl, B1.out⟩
  · have HZ := hide (show hidN es p = 0 by simp [hidN, ho, rankE, hf, hk])
    rw [ho] at HOV
    rw [hk] at c1
    clear ho hk hp hf
    go_enter Tryz.func86, Tryz.ntmps86
    go_wp2_with fail
    refine HOV.out.mono ?_
    rintro r w1 ⟨rfl, hb1⟩
    have B1 := hide hb1
    have c1' := (hb1.cell (p := ⟨bb, off2 + m * 4 + 1, none⟩) hb2).trans c1
    clear hb1 c1
    go_wp2_with fail
    refine (HAT.out w1 B1.out).mono ?_
    rintro r w2 ⟨rfl, rfl⟩
    go_wp2_with (go_at_call 93; refine (l4IsDir_any _ _ 2 _ c1').mono ?_; rintro r w3 ⟨rfl, rfl⟩; rw [show dirK 2 = true from rfl])
    go_ret
    exact ⟨by rw [HZ.out]; rfl, B1.out⟩
  · have HZ := hide (show hidN es p = 1 by simp [hidN, ho, rankE, hf, hk])
    rw [ho] at HOV
    rw [hk] at c1
    clear ho hk hp hf
    go_enter Tryz.func86, Tryz.ntmps86
    go_wp2_with fail
    refine HOV.out.mono ?_
    rintro r w1 ⟨rfl, hb1⟩
    have B1 := hide hb1
    have c1' := (hb1.cell (p := ⟨bb, off2 + m * 4 + 1, none⟩) hb2).trans c1
    clear hb1 c1
    go_wp2_with fail
    refine (HAT.out w1 B1.out).mono ?_
    rintro r w2 ⟨rfl, rfl⟩
    go_wp2_with (go_at_call 93; refine (l4IsDir_any _ _ 2 _ c1').mono ?_; rintro r w3 ⟨rfl, rfl⟩; rw [show dirK 2 = true from rfl])
    go_ret
    exact ⟨by rw [HZ.out]; rfl, B1.out⟩
  · have HZ := hide (show hidN es p = 2 by simp [hidN, ho, rankE, hf, hk])
    rw [ho] at HOV
    rw [hk] at c1
    clear ho hk hp hf
    go_enter Tryz.func86, Tryz.ntmps86
    go_wp2_with fail
    refine HOV.out.mono ?_
    rintro r w1 ⟨rfl, hb1⟩
    have B1 := hide hb1
    have c1' := (hb1.cell (p := ⟨bb, off2 + m * 4 + 1, none⟩) hb2).trans c1
    clear hb1 c1
    go_wp2_with fail
    refine (HAT.out w1 B1.out).mono ?_
    rintro r w2 ⟨rfl, rfl⟩
    go_wp2_with (go_at_call 93; refine (l4IsDir_any _ _ 2 _ c1').mono ?_; rintro r w3 ⟨rfl, rfl⟩; rw [show dirK 2 = true from rfl])
    go_ret
    exact ⟨by rw [HZ.out]; rfl, B1.out⟩
  · have HZ := hide (show hidN es p = 2 by simp [hidN, ho, rankE, hf, hk])
    rw [ho] at HOV
    rw [hk] at c1
    clear ho hk hp hf
    go_enter Tryz.func86, Tryz.ntmps86
    go_wp2_with fail
    refine HOV.out.mono ?_
    rintro r w1 ⟨rfl, hb1⟩
    have B1 := hide hb1
    have c1' := (hb1.cell (p := ⟨bb, off2 + m * 4 + 1, none⟩) hb2).trans c1
    clear hb1 c1
    go_wp2_with fail
    refine (HAT.out w1 B1.out).mono ?_
    rintro r w2 ⟨rfl, rfl⟩
    go_wp2_with (go_at_call 93; refine (l4IsDir_any _ _ 3 _ c1').mono ?_; rintro r w3 ⟨rfl, rfl⟩; rw [show dirK 3 = false from rfl])
    go_ret
    exact ⟨by rw [HZ.out]; rfl, B1.out⟩
  · have HZ := hide (show hidN es p = 2 by simp [hidN, ho, rankE, hf, hk])
    rw [ho] at HOV
    rw [hk] at c1
    clear ho hk hp hf
    go_enter Tryz.func86, Tryz.ntmps86
    go_wp2_with fail
    refine HOV.out.mono ?_
    rintro r w1 ⟨rfl, hb1⟩
    have B1 := hide hb1
    have c1' := (hb1.cell (p := ⟨bb, off2 + m * 4 + 1, none⟩) hb2).trans c1
    clear hb1 c1
    go_wp2_with fail
    refine (HAT.out w1 B1.out).mono ?_
    rintro r w2 ⟨rfl, rfl⟩
    go_wp2_with (go_at_call 93; refine (l4IsDir_any _ _ 3 _ c1').mono ?_; rintro r w3 ⟨rfl, rfl⟩; rw [show dirK 3 = false from rfl])
    go_ret
    exact ⟨by rw [HZ.out]; rfl, B1.out⟩
  · have HZ := hide (show hidN es p = 2 by simp [hidN, ho, rankE, hf, hk])
    rw [ho] at HOV
    rw [hk] at c1
    clear ho hk hp hf
    go_enter Tryz.func86, Tryz.ntmps86
    go_wp2_with fail
    refine HOV.out.mono ?_
    rintro r w1 ⟨rfl, hb1⟩
    have B1 := hide hb1
    have c1' := (hb1.cell (p := ⟨bb, off2 + m * 4 + 1, none⟩) hb2).trans c1
    clear hb1 c1
    go_wp2_with fail
    refine (HAT.out w1 B1.out).mono ?_
    rintro r w2 ⟨rfl, rfl⟩
    go_wp2_with (go_at_call 93; refine (l4IsDir_any _ _ 3 _ c1').mono ?_; rintro r w3 ⟨rfl, rfl⟩; rw [show dirK 3 = false from rfl])
    go_ret
    exact ⟨by rw [HZ.out]; rfl, B1.out⟩
  · have HZ := hide (show hidN es p = 1 by simp [hidN, ho, rankE, hf, hk])
    rw [ho] at HOV
    rw [hk] at c1
    clear ho hk hp hf
    go_enter Tryz.func86, Tryz.ntmps86
    go_wp2_with fail
    refine HOV.out.mono ?_
    rintro r w1 ⟨rfl, hb1⟩
    have B1 := hide hb1
    have c1' := (hb1.cell (p := ⟨bb, off2 + m * 4 + 1, none⟩) hb2).trans c1
    clear hb1 c1
    go_wp2_with fail
    refine (HAT.out w1 B1.out).mono ?_
    rintro r w2 ⟨rfl, rfl⟩
    go_wp2_with (go_at_call 93; refine (l4IsDir_any _ _ 4 _ c1').mono ?_; rintro r w3 ⟨rfl, rfl⟩; rw [show dirK 4 = true from rfl])
    go_ret
    exact ⟨by rw [HZ.out]; rfl, B1.out⟩
  · have HZ := hide (show hidN es p = 1 by simp [hidN, ho, rankE, hf, hk])
    rw [ho] at HOV
    rw [hk] at c1
    clear ho hk hp hf
    go_enter Tryz.func86, Tryz.ntmps86
    go_wp2_with fail
    refine HOV.out.mono ?_
    rintro r w1 ⟨rfl, hb1⟩
    have B1 := hide hb1
    have c1' := (hb1.cell (p := ⟨bb, off2 + m * 4 + 1, none⟩) hb2).trans c1
    clear hb1 c1
    go_wp2_with fail
    refine (HAT.out w1 B1.out).mono ?_
    rintro r w2 ⟨rfl, rfl⟩
    go_wp2_with (go_at_call 93; refine (l4IsDir_any _ _ 4 _ c1').mono ?_; rintro r w3 ⟨rfl, rfl⟩; rw [show dirK 4 = true from rfl])
    go_ret
    exact ⟨by rw [HZ.out]; rfl, B1.out⟩
  · have HZ := hide (show hidN es p = 2 by simp [hidN, ho, rankE, hf, hk])
    rw [ho] at HOV
    rw [hk] at c1
    clear ho hk hp hf
    go_enter Tryz.func86, Tryz.ntmps86
    go_wp2_with fail
    refine HOV.out.mono ?_
    rintro r w1 ⟨rfl, hb1⟩
    have B1 := hide hb1
    have c1' := (hb1.cell (p := ⟨bb, off2 + m * 4 + 1, none⟩) hb2).trans c1
    clear hb1 c1
    go_wp2_with fail
    refine (HAT.out w1 B1.out).mono ?_
    rintro r w2 ⟨rfl, rfl⟩
    go_wp2_with (go_at_call 93; refine (l4IsDir_any _ _ 4 _ c1').mono ?_; rintro r w3 ⟨rfl, rfl⟩; rw [show dirK 4 = true from rfl])
    go_ret
    exact ⟨by rw [HZ.out]; rfl, B1.out⟩
theorem l8Hides_any (a : Option Addr) (c n : Nat) (es : List En) (p : Bs) (w : World) (h : RdE w a es) (hn : n = es.length) (hl : es.length ≤ 1048576) (hRi : Right es) (hp : faultP p = 0) (hpl : p.length ≤ 1048576) :
    Calls Tryz.prog 86 #[.slice a n c, .string (str p)] w fun r w' => r = .returned (.int .i64 (hidN es p)) ∧ Below w.heap.size w w' := by
  cases ha : atE es p with
  | none => exact l8Hides_none a c n es p w h hn hl hp hpl ha
  | some m => exact l8Hides_some a c n es p m w h hn hl hRi hp hpl ha
end Go.Proofs.YtjkmbicedbdifaaGreat

namespace Go.Proofs.YtjkmbicedbdifaaGreat
open Go.RowKit Go.Maps
set_option linter.unusedVariables false

theorem En.same {e f : En} (h0 : e.path = f.path) (h1 : e.kind = f.kind) (h2 : e.size = f.size) (h3 : e.chunks = f.chunks) : e = f := by
  cases e; cases f; simp_all
theorem ne_at {es fs : List En} {j : Nat} {e f : En} (he : es[j]? = some e) (hf : fs[j]? = some f) (h : e ≠ f) : decide (es = fs) = false := by
  apply decide_eq_false
  intro e1
  rw [e1, hf] at he
  exact h (Option.some.inj he).symm
theorem take_both {α : Type} {es fs : List α} {j : Nat} {e f : α} (he : es[j]? = some e) (hf : fs[j]? = some f) (h : es.take j = fs.take j) (hx : e = f) : es.take (j + 1) = fs.take (j + 1) := by
  rw [take_snoc_at he, take_snoc_at hf, h, hx]
theorem take_whole {α : Type} {es fs : List α} {j : Nat} (h : es.take j = fs.take j) (h1 : es.length ≤ j) (h2 : fs.length ≤ j) : es = fs := by
  rwa [List.take_of_length_le h1, List.take_of_length_le h2] at h
theorem getD_at {zs : List Int} {k : Nat} (h : k < zs.length) : zs[k]? = some (zs.getD k 0) := by rw [List.getD_eq_getElem?_getD, List.getElem?_eq_getElem h]; rfl



end Go.Proofs.YtjkmbicedbdifaaGreat

namespace Go.Proofs.YtjkmbicedbdifaaGreat
open Go.ChangeShapes Go.WideShapes Go.ChangeAt Go.RowKit
set_option linter.unusedVariables false

/-- A block of four cells that may be written. -/
def Box4 (w : World) (b : Nat) (u0 u1 u2 u3 : Value) : Prop := Four w b u0 u1 u2 u3 ∧ ∀ i, w.frozen? ⟨b, i, none⟩ = false
theorem Box4.new (w : World) (u0 u1 u2 u3 : Value) (t : TypeId) : Box4 (w.alloc (.cells #[u0, u1, u2, u3] t)) w.heap.size u0 u1 u2 u3 := ⟨Four.new w u0 u1 u2 u3 t, fun i => by simp⟩
theorem Box4.below {w w' : World} {b : Nat} {u0 u1 u2 u3 : Value} (h : Box4 w b u0 u1 u2 u3) (hk : Below w.heap.size w w') : Box4 w' b u0 u1 u2 u3 :=
  ⟨h.1.below hk, fun i => (hk.frozen (p := ⟨b, i, none⟩) h.1.lt).trans (h.2 i)⟩






end Go.Proofs.YtjkmbicedbdifaaGreat

namespace Go.Proofs.YtjkmbicedbdifaaGreat
open Go.RowKit Go.Maps
set_option linter.unusedVariables false
attribute [local go_sem ↓] Go.wp_at_zero Go.wp_at_succ

set_option maxRecDepth 100000 in
set_option maxHeartbeats 3200000 in
theorem treeOf_any (a : Option Addr) (c n : Nat) (es : List En) (w : World) (h : RdE w a es) (hn : n = es.length) (hl : es.length ≤ 1048576) :
    Calls Tryz.prog 44 #[.slice a n c] w fun r w' => ∃ av cv, r = .returned (.slice av n cv) ∧ LI w w' (.slice av n cv) es ∧ Below w.heap.size w w' := by
  subst hn
  obtain ⟨i1, ki, kz0, kz1, kz2⟩ := info_parts Tryz.infoIt
  have HR := hide h
  clear h
  go_enter Tryz.func44, Tryz.ntmps44
  go_wp2_with fail
  go_loopw [3, 8] (fun v i wr => ∃ k : Nat, k ≤ es.length ∧ i = .int .i64 k ∧ Hid (LI w wr v (es.take k)) ∧ Hid (Below w.heap.size w wr)) (fun _ i _ => es.length - (intOf i).toNat)
  case atStart => exact ⟨0, Nat.zero_le _, rfl, hide (LI.nil _ _), hide (Below.refl _ _)⟩
  case round =>
    obtain ⟨k, hk, rfl, HL, HW⟩ := hrel
    have hsz := HW.out.size
    obtain ⟨lv, lc, hv⟩ := HL.out.shape
    rw [take_len hk] at hv
    subst hv
    by_cases hlt : k < es.length
    · obtain ⟨b, off, e, x, cc, rfl, hb, he, c0, c1, c2, c3, hr⟩ := (HR.out.below HW.out).at hlt
      obtain ⟨b', off', e', x', cc', hbb, hb', he', d0, d1, d2, d3, hr'⟩ := HR.out.at hlt
      simp only [Option.some.injEq, Addr.mk.injEq, and_true] at hbb
      obtain ⟨rfl, rfl⟩ := hbb
      have : e' = e := Option.some.inj (he'.symm.trans he)
      subst this
      have d3' := (HW.out.cell (p := ⟨b, off + k * 4 + 3, none⟩) hb').trans d3
      rw [c3] at d3'
      simp only [Option.some.injEq, Value.slice.injEq, true_and] at d3'
      obtain ⟨rfl, rfl⟩ := d3'
      have HX := hide he
      have HRc := hide hr'
      clear he hr hr' he' d0 d1 d2 d3
      have BA := hide (below_alloc wr (.cells #[.string (str e'.path), .int .i64 e'.kind, .int .i64 e'.size, .slice x e'.chunks.length cc] 40))
      go_wp2_with fail
      refine (itemOf_any _ _ _ _ _ _ _).mono ?_
      rintro r w3 ⟨rfl, hb3⟩
      have BB5 := hide (below_next BA.out hb3)
      clear hb3 c0 c1 c2 c3 BA
      obtain ⟨rs, g1, g2, g3⟩ := HL.out
      rw [take_len hk] at g2
      have G1 := hide g1
      have G2 := hide (ownsRow_below g2 BB5.out)
      have G3 := hide g3
      have HK := hide (take_len hk)
      clear g1 g2 g3
      have hm1 : k + 1 ≤ maxLen := by unfold maxLen; omega
      have hm1' : (k + 1) * 56 ≤ 140737488355328 := by omega
      have hsz5 := BB5.out.size
      go_wp2_with (at_builtin; refine wpList_append_put rfl (.tmp 12) (.tmp 15) 55 rfl w.heap.size 64 i1 (.agg #[.int .i64 0, .slice none 0 0, .string ⟨#[]⟩, .int .i64 0]) 4 56 Tryz.underlying55 ki kz0 kz1 kz2 rfl (by decide) _ _ _ rfl G2.out _ rfl rfl rfl (by intro u hu; simp at hu; rcases hu with rfl | rfl | rfl | rfl <;> rfl) hm1 hm1' (by omega) ?_; intro av6 cv6 w6 hown6 hk6; have O6 := hide hown6; have K6 := hide hk6; clear hown6 hk6)
      go_roundw
      case rel =>
        refine ⟨k + 1, by omega, by go_num, hide ?_, hide ?_⟩
        · rw [take_snoc_at HX.out]
          exact LI.push (e := e') (a := x) (c := cc) G1.out HK.out.symm G3.out HRc.out O6.out
        · exact (below_next HW.out BB5.out).trans (K6.out.below (by omega) (fun q hq hS => by have := (G2.out.lt q hS).1; omega))
      case measure => simp [intOf]; omega
    · have hke : k = es.length := by omega
      have HE := hide (show es.take k = es from List.take_of_length_le (by omega))
      have HL2 : Hid (LI w wr (.slice lv k lc) es) := by have := HL.out; rw [HE.out] at this; exact this
      clear HL HE
      subst hke
      go_wp2_with fail
      go_ret
      exact ⟨lv, lc, rfl, HL2.out, HW.out⟩

/-- A closure that answers f, in worlds that came of W0. -/
def Asks (W0 : World) (fn : FuncId) (cap : Array Value) (f : En → Bool) : Prop :=
  (∀ args w, (callFunc fn args).run Tryz.prog w = .ok (.enter fn args) w) ∧ ∀ (e : En) (a : Option Addr) (c : Nat) (w : World), e.path.length ≤ 1048576 → e.chunks.length ≤ 1048576 → Reads .i64 w a e.chunks → Below W0.heap.size W0 w →
    Calls Tryz.prog fn (#[.agg #[.int .i64 e.size, .slice a e.chunks.length c, .string (str e.path), .int .i64 e.kind]] ++ cap) w fun r w' => r = .returned (.bool (f e)) ∧ Below w.heap.size w w'
theorem Asks.next {W0 W : World} {fn : FuncId} {cap : Array Value} {f : En → Bool} (h : Asks W0 fn cap f) (hb : Below W0.heap.size W0 W) : Asks W fn cap f :=
  ⟨h.1, fun e a c w he hc hr hw => h.2 e a c w he hc hr (below_next hb hw)⟩
theorem find_step {es : List En} {f : En → Bool} {k : Nat} {e : En} (he : es[k]? = some e) (h : es.find? f = (es.drop k).find? f) (hf : f e = false) : es.find? f = (es.drop (k + 1)).find? f := by
  rw [h, drop_at he, List.find?_cons, hf]
theorem find_hit {es : List En} {f : En → Bool} {k : Nat} {e : En} (he : es[k]? = some e) (h : es.find? f = (es.drop k).find? f) (hf : f e = true) : es.find? f = some e := by
  rw [h, drop_at he, List.find?_cons, hf]
theorem find_stop {es : List En} {f : En → Bool} {k : Nat} (hk : es.length ≤ k) (h : es.find? f = (es.drop k).find? f) : es.find? f = none := by
  rw [h, List.drop_eq_nil_of_le hk]; rfl

/-- What 'first' answers. -/
def FirstI (o : Option En) (w : World) (r : Ending) : Prop :=
  (∃ e x cc, o = some e ∧ r = .returned (.tuple #[.agg #[.int .i64 e.size, .slice x e.chunks.length cc, .string (str e.path), .int .i64 e.kind], .bool true]) ∧ Reads .i64 w x e.chunks) ∨
    (o = none ∧ r = .returned (.tuple #[.agg #[.int .i64 0, .slice none 0 0, .string ⟨#[]⟩, .int .i64 0], .bool false]))
set_option maxRecDepth 100000 in
set_option maxHeartbeats 3200000 in
theorem first_any (a : Option Addr) (c n : Nat) (es : List En) (fn : FuncId) (cap : Array Value) (f : En → Bool) (w : World) (h : RdI w a es) (hn : n = es.length) (hl : es.length ≤ 1048576) (hs : SmallE es) (hf : Asks w fn cap f) :
    Calls Tryz.prog 45 #[.slice a n c, .func (.func fn) #[] cap] w fun r w' => FirstI (es.find? f) w r ∧ Below w.heap.size w w' := by
  subst hn
  have eg := hf.1
  have HF := hide hf
  have HR := hide h
  have HS := hide hs
  have X0 := hide (Box4.new w (.int .i64 0) (.slice none 0 0) (.string ⟨#[]⟩) (.int .i64 0) 64)
  have B0 := hide (below_alloc w (.cells #[.int .i64 0, .slice none 0 0, .string ⟨#[]⟩, .int .i64 0] 64))
  clear h hf hs
  go_enter Tryz.func45, Tryz.ntmps45
  go_wp2_with fail
  generalize w.alloc (.cells #[.int .i64 0, .slice none 0 0, .string ⟨#[]⟩, .int .i64 0] 64) = W0 at *
  go_loopw [11] (fun i wr => ∃ k : Nat, k ≤ es.length ∧ i = .int .i64 k ∧ Hid (es.find? f = (es.drop k).find? f) ∧ Hid (Below W0.heap.size W0 wr)) (fun i _ => es.length - (intOf i).toNat)
  case atStart => exact ⟨0, Nat.zero_le _, rfl, hide (by simp), hide (Below.refl _ _)⟩
  case round =>
    obtain ⟨k, hk, rfl, HFi, HW0⟩ := hrel
    have HW := hide (below_next B0.out HW0.out)
    have hsz := HW.out.size
    by_cases hlt : k < es.length
    · obtain ⟨b, off, e, x, cc, rfl, hb, he, c0, c1, c2, c3, hr⟩ := (HR.out.below HW.out).at hlt
      obtain ⟨b', off', e', x', cc', hbb, hb', he', d0, d1, d2, d3, hr'⟩ := HR.out.at hlt
      simp only [Option.some.injEq, Addr.mk.injEq, and_true] at hbb
      obtain ⟨rfl, rfl⟩ := hbb
      have : e' = e := Option.some.inj (he'.symm.trans he)
      subst this
      have d1' := (HW.out.cell (p := ⟨b, off + k * 4 + 1, none⟩) hb').trans d1
      rw [c1] at d1'
      simp only [Option.some.injEq, Value.slice.injEq, true_and] at d1'
      obtain ⟨rfl, rfl⟩ := d1'
      have hsm := HS.out e' (List.mem_of_getElem? he)
      have HX := hide he
      have HRc := hide hr'
      clear he hr hr' he' d0 d1 d2 d3
      have BA := hide (below_alloc wr (.cells #[.int .i64 e'.size, .slice x e'.chunks.length cc, .string (str e'.path), .int .i64 e'.kind] 64))
      have F4 := hide (Four.new wr (.int .i64 e'.size) (.slice x e'.chunks.length cc) (.string (str e'.path)) (.int .i64 e'.kind) 64)
      go_wp2_with fail
      refine (HF.out.2 e' x cc _ hsm.1 hsm.2 (HRc.out.below (below_next HW.out BA.out)) (below_next HW.out BA.out)).mono ?_
      rintro r w3 ⟨rfl, hb3⟩
      have BB3 := hide (below_next HW0.out (below_next BA.out hb3))
      obtain ⟨f0, f1, f2, f3⟩ := F4.out.below hb3
      clear hb3 c0 c1 c2 c3
      cases hq : f e'
      · have HN := hide (find_step HX.out HFi.out hq)
        clear hq
        go_wp2_with fail
        go_roundw
        case rel => exact ⟨k + 1, by omega, by go_num, HN, BB3⟩
        case measure => simp [intOf]; omega
      · have HN := hide (find_hit HX.out HFi.out hq)
        clear hq
        obtain ⟨⟨t0, t1, t2, t3⟩, tf⟩ := X0.out.below BB3.out
        have tf0 := tf 0
        have tf1 := tf 1
        have tf2 := tf 2
        have tf3 := tf 3
        clear tf
        go_wp2_with fail
        refine bodyPost_ret (v := .tuple #[.agg #[.int .i64 e'.size, .slice x e'.chunks.length cc, .string (str e'.path), .int .i64 e'.kind], .bool true]) (by simp [results, Tryz.results45, go_sem, t0, t1, t2, t3]) rfl ?_
        exact ⟨.inl ⟨e', x, cc, HN.out, rfl, HRc.out⟩, ((((below_next B0.out BB3.out).setCell (p := ⟨w.heap.size, 0, none⟩) (Nat.le_refl _) _).setCell (p := ⟨w.heap.size, 1, none⟩) (Nat.le_refl _) _).setCell (p := ⟨w.heap.size, 2, none⟩) (Nat.le_refl _) _).setCell (p := ⟨w.heap.size, 3, none⟩) (Nat.le_refl _) _⟩
    · have HN := hide (find_stop (by omega) HFi.out)
      have BA := hide (below_alloc wr (.cells #[.int .i64 0, .slice none 0 0, .string ⟨#[]⟩, .int .i64 0] 64))
      obtain ⟨⟨t0, t1, t2, t3⟩, tf⟩ := X0.out.below (below_next HW0.out BA.out)
      have tf0 := tf 0
      have tf1 := tf 1
      have tf2 := tf 2
      have tf3 := tf 3
      clear tf
      go_wp2_with fail
      refine bodyPost_ret (v := .tuple #[.agg #[.int .i64 0, .slice none 0 0, .string ⟨#[]⟩, .int .i64 0], .bool false]) (by simp [results, Tryz.results45, go_sem, t0, t1, t2, t3]) rfl ?_
      exact ⟨.inr ⟨HN.out, rfl⟩, ((((below_next HW.out BA.out).setCell (p := ⟨w.heap.size, 0, none⟩) (Nat.le_refl _) _).setCell (p := ⟨w.heap.size, 1, none⟩) (Nat.le_refl _) _).setCell (p := ⟨w.heap.size, 2, none⟩) (Nat.le_refl _) _).setCell (p := ⟨w.heap.size, 3, none⟩) (Nat.le_refl _) _⟩
end Go.Proofs.YtjkmbicedbdifaaGreat

namespace Go.Proofs.YtjkmbicedbdifaaGreat
open Go.RowKit Go.Maps
set_option linter.unusedVariables false
attribute [local go_sem ↓] Go.wp_at_zero Go.wp_at_succ

theorem seeLaidOut : laidOutB Tryz.prog = true := by kernel_rfl
theorem spotLaw : Keyed Tryz.prog 73 := Keyed.of_law (deep_law_gate seeLaidOut (by decide +kernel) (by decide +kernel) (by kernel_rfl) (by kernel_rfl))
/-- A spot as a value, and as a key. -/
def spotV (i : Nat) (p : Bs) : Value := .agg #[.int .i64 i, .string (str p)]
def spotK (i : Nat) (p : Bs) : Lit := .string (keyBytes [.int .i64 i, .string (str p).data.toList])
theorem spotType : Tryz.prog.keyType 73 = true := by kernel_rfl
theorem spotCells : Tryz.prog.cellsOf 73 = 2 := by kernel_rfl
theorem intCells : Tryz.prog.cellsOf 3 = 1 := by kernel_rfl
theorem strCells : Tryz.prog.cellsOf 9 = 1 := by kernel_rfl
theorem nTypes : ∃ m, Tryz.prog.types.size + 1 = m + 1 + 1 := ⟨Tryz.prog.types.size - 1, by have : 1 ≤ Tryz.prog.types.size := (by decide +kernel); omega⟩
theorem i64_nat {i : Nat} (h : i ≤ 100) : (Lit.int .i64 (i : Int)).wf = true := by
  simp [Lit.wf, IntKind.min, IntKind.max, IntKind.signed, IntKind.bits]; omega
theorem spot_key {i : Nat} {p : Bs} (hi : i ≤ 100) (hp : p.length ≤ 1048576) : keyOf Tryz.prog 73 (spotV i p) = some (spotK i p) := by
  have hs : (str p).size ≤ maxLen := by rw [str_size]; unfold maxLen; omega
  have hw := i64_nat hi
  obtain ⟨m, hm⟩ := nTypes
  unfold keyOf spotV spotK
  rw [Tryz.underlying73]
  simp only [spotType, Value.formed, Tryz.underlying73, spotCells, Value.cells]
  rw [hm]
  simp [Program.keyLits, Tryz.underlying73, spotCells, Tryz.underlying3, Tryz.underlying9, intCells, strCells, hs, hw]
theorem spotV_inj {i j : Nat} {p q : Bs} (h : spotV i p = spotV j q) : i = j ∧ p = q := by
  unfold spotV at h
  simp only [Value.agg.injEq, Array.mk.injEq, List.cons.injEq, Value.int.injEq, Value.string.injEq, true_and, and_true] at h
  refine ⟨by omega, ?_⟩
  have := congrArg (fun s : ByteArray => s.data.toList) h.2
  simpa [str_data] using this
theorem spotK_inj {i j : Nat} {p q : Bs} (hi : i ≤ 100) (hj : j ≤ 100) (hp : p.length ≤ 1048576) (hq : q.length ≤ 1048576) (h : spotK i p = spotK j q) : i = j ∧ p = q := by
  have h1 := spot_key hi hp
  have h2 := spot_key hj hq
  rw [← h] at h2
  exact spotV_inj (spotLaw.inj h1 h2)

/-- How an element of the map reads: as it is. -/
def RVs (v : Value) : Option (DataW Value × List MemPlace) := some (.held v, [])
/-- An item as a value. -/
def itV (e : En) (a : Option Addr) (c : Nat) : Value := .agg #[.int .i64 e.size, .slice a e.chunks.length c, .string (str e.path), .int .i64 e.kind]
theorem zeroIt (w : World) : (zeroValue 64).run Tryz.prog w = .ok (.agg #[.int .i64 0, .slice none 0 0, .string ⟨#[]⟩, .int .i64 0]) w := by kernel_rfl

/-- Block b is a map that has the items S tells, each at its spot; their digests are read in w0. -/
def SeeM (w0 w : World) (b N : Nat) (S : Nat → Bs → Option En) : Prop :=
  ∃ (Dt : DataW Value) (A : Nat → Bs → Option Addr) (C : Nat → Bs → Nat), w.ownsMap Tryz.prog 73 RVs b N Dt ∧
    (∀ i p, i ≤ 100 → p.length ≤ 1048576 → has Dt (spotK i p) = (S i p).isSome) ∧
    (∀ i p e, i ≤ 100 → p.length ≤ 1048576 → S i p = some e → (∀ z, Dt.atKey (spotK i p) z = .held (itV e (A i p) (C i p))) ∧ Reads .i64 w0 (A i p) e.chunks) ∧
    (∀ kl, has Dt kl = true → ∃ i p, i ≤ 100 ∧ p.length ≤ 1048576 ∧ kl = spotK i p)
theorem SeeM.lt {w0 w : World} {b N : Nat} {S : Nat → Bs → Option En} (h : SeeM w0 w b N S) : b < w.heap.size := by
  obtain ⟨Dt, A, C, h1, _⟩ := h
  exact h1.lt
theorem SeeM.kept {Q : Nat → Prop} {w0 w w' : World} {b N : Nat} {S : Nat → Bs → Option En} (h : SeeM w0 w b N S) (hk : Kept Q w w') (hb : ¬ Q b) : SeeM w0 w' b N S := by
  obtain ⟨Dt, A, C, h1, h2⟩ := h
  have hlt := h1.lt
  obtain ⟨es, clock, hh, r⟩ := h1
  exact ⟨Dt, A, C, ⟨es, clock, (hk.block b hlt hb).trans hh, r⟩, h2⟩
theorem SeeM.below {w0 w w' : World} {b N : Nat} {S : Nat → Bs → Option En} (h : SeeM w0 w b N S) (hk : Below w.heap.size w w') : SeeM w0 w' b N S :=
  h.kept (Q := fun _ => False) (Kept.of_below hk) id
theorem SeeM.congr {w0 w : World} {b N : Nat} {S S' : Nat → Bs → Option En} (h : SeeM w0 w b N S) (hS : ∀ i p, S i p = S' i p) : SeeM w0 w b N S' := by
  have : S = S' := funext fun i => funext fun p => hS i p
  rw [← this]; exact h
theorem SeeM.made (w0 w : World) : SeeM w0 (w.alloc (.map #[] 0)) w.heap.size 0 (fun _ _ => none) := by
  refine ⟨.map [], fun _ _ => none, fun _ _ => 0, World.ownsMap_made _ _ _ _, ?_, ?_, ?_⟩
  · intro i p _ _
    simp [has]
  · intro i p e _ _ h
    simp at h
  · intro kl h
    simp [has] at h
theorem see_grown {w w' : World} {b : Nat} (h : w.grownBy w' (some b)) : Kept (fun x => x = b) w w' :=
  ⟨h.os, h.tape, h.output, h.size, fun k hk hn => h.block k hk (fun e => hn (by simpa using e))⟩
theorem spot_isKey {i : Nat} {p : Bs} (hi : i ≤ 100) (hp : p.length ≤ 1048576) : WideAt.IsKeyLit (spotK i p) := spotLaw.key (spot_key hi hp)

/-- An item is stored. -/
theorem SeeM.put {w0 w : World} {b N i : Nat} {p : Bs} {S : Nat → Bs → Option En} {e : En} {a : Option Addr} {c : Nat} (h : SeeM w0 w b N S) (hi : i ≤ 100) (hp : p.length ≤ 1048576) (hr : Reads .i64 w0 a e.chunks) :
    ∃ Dt, w.ownsMap Tryz.prog 73 RVs b N Dt ∧ ∀ w', w'.ownsMap Tryz.prog 73 RVs b (N + 1) (Dt.put (spotK i p) (.held (itV e a c))) → SeeM w0 w' b (N + 1) (fun j q => if j = i ∧ q = p then some e else S j q) := by
  obtain ⟨Dt, A, C, h1, h2, h3, h4⟩ := h
  refine ⟨Dt, h1, fun w' ho => ?_⟩
  refine ⟨_, fun j q => if j = i ∧ q = p then a else A j q, fun j q => if j = i ∧ q = p then c else C j q, ho, fun j q hj hq => ?_, fun j q x hj hq hx => ?_, fun kl hkl => ?_⟩
  · by_cases e1 : j = i ∧ q = p
    · obtain ⟨rfl, rfl⟩ := e1
      rw [has_put_same h1.isMap (spot_isKey hj hq)]
      simp
    · have hne : spotK j q ≠ spotK i p := fun hk => e1 (spotK_inj hj hi hq hp hk)
      rw [has_put_other (by simpa using hne), h2 j q hj hq]
      simp [e1]
  · by_cases e1 : j = i ∧ q = p
    · simp only [if_pos e1] at hx ⊢
      cases hx
      obtain ⟨rfl, rfl⟩ := e1
      exact ⟨fun z => atKey_put_same h1.isMap (spot_isKey hj hq) _ _, hr⟩
    · have hne : spotK j q ≠ spotK i p := fun hk => e1 (spotK_inj hj hi hq hp hk)
      simp only [if_neg e1] at hx ⊢
      exact ⟨fun z => by rw [atKey_put_other (by simpa using hne)]; exact (h3 j q x hj hq hx).1 z, (h3 j q x hj hq hx).2⟩
  · by_cases e1 : kl = spotK i p
    · exact ⟨i, p, hi, hp, e1⟩
    · rw [has_put_other (by simpa using e1)] at hkl
      exact h4 kl hkl

theorem SeeM.yes {w0 w : World} {b N i : Nat} {p : Bs} {S : Nat → Bs → Option En} {e : En} (h : SeeM w0 w b N S) (hi : i ≤ 100) (hp : p.length ≤ 1048576) (he : S i p = some e) :
    ∃ a c, (Instr.lookup 57 (.map (some b)) (spotV i p) true).run Tryz.prog w = .ok (.tuple #[itV e a c, .bool true]) w ∧ (Instr.lookup 57 (.map (some b)) (spotV i p) false).run Tryz.prog w = .ok (itV e a c) w ∧ Reads .i64 w0 a e.chunks := by
  obtain ⟨Dt, A, C, h1, h2, h3, h4⟩ := h
  refine ⟨A i p, C i p, ?_, ?_, (h3 i p e hi hp he).2⟩
  · obtain ⟨v, ps, hrun, hv⟩ := h1.look_ok spotLaw Tryz.underlying57 (zeroIt w) (zd := .held (.agg #[.int .i64 0, .slice none 0 0, .string ⟨#[]⟩, .int .i64 0])) (zp := []) rfl (spot_key hi hp)
    simp only [RVs, Option.some.injEq, Prod.mk.injEq, (h3 i p e hi hp he).1] at hv
    have e1 := hv.1
    simp only [DataW.held.injEq] at e1
    rw [hrun, h2 i p hi hp, he]
    simp [e1]
  · obtain ⟨v, ps, hrun, hv⟩ := h1.lookup spotLaw Tryz.underlying57 (zeroIt w) (zd := .held (.agg #[.int .i64 0, .slice none 0 0, .string ⟨#[]⟩, .int .i64 0])) (zp := []) rfl (spot_key hi hp)
    simp only [RVs, Option.some.injEq, Prod.mk.injEq, (h3 i p e hi hp he).1] at hv
    have e1 := hv.1
    simp only [DataW.held.injEq] at e1
    rw [hrun]
    simp [e1]
theorem SeeM.no {w0 w : World} {b N i : Nat} {p : Bs} {S : Nat → Bs → Option En} (h : SeeM w0 w b N S) (hi : i ≤ 100) (hp : p.length ≤ 1048576) (he : S i p = none) :
    (Instr.lookup 57 (.map (some b)) (spotV i p) true).run Tryz.prog w = .ok (.tuple #[.agg #[.int .i64 0, .slice none 0 0, .string ⟨#[]⟩, .int .i64 0], .bool false]) w := by
  obtain ⟨Dt, A, C, h1, h2, h3, h4⟩ := h
  obtain ⟨v, ps, hrun, hv⟩ := h1.look_ok spotLaw Tryz.underlying57 (zeroIt w) (zd := .held (.agg #[.int .i64 0, .slice none 0 0, .string ⟨#[]⟩, .int .i64 0])) (zp := []) rfl (spot_key hi hp)
  have hh : has Dt (spotK i p) = false := by rw [h2 i p hi hp, he]; rfl
  rw [atKey_of_not_has hh] at hv
  simp only [RVs, Option.some.injEq, Prod.mk.injEq] at hv
  have e1 := hv.1
  simp only [DataW.held.injEq] at e1
  rw [hrun, hh, e1]
/-- A look-up at the operation, its run known. -/
theorem wpList_lookS {P : Program} {w : World} {ops : Array Oper} {rest : List Oper} {o : Oper} {a : Act} {Q : Exit → Act → World → Prop} (hg : o.guard = none) (m x : Operand) (t : TypeId) (c : Bool) (hop : o.op = Op.lookup t m x c)
    (vm vx v : Value) (hm : a.eval m = vm) (hx : a.eval x = vx) (hrun : (Instr.lookup t vm vx c).run P w = .ok v w) (h : wpList P ops Q rest (a.put o.dst v) w) : wpList P ops Q (o :: rest) a w := by
  refine wpList_plain hg fun K' hK' => ?_
  unfold Oper.wp
  simp [execOp, hop, hm, hx, hrun, Result.andThen]
  exact hK' _ _ h
end Go.Proofs.YtjkmbicedbdifaaGreat

namespace Go.Proofs.YtjkmbicedbdifaaGreat
open Go.RowKit Go.Maps
set_option linter.unusedVariables false
attribute [local go_sem ↓] Go.wp_at_zero Go.wp_at_succ

/-- A list of layers in memory. -/
def RdL (w : World) (a : Option Addr) (ls : List (List En)) : Prop :=
  ls ≠ [] → ∃ (b off : Nat) (A : Nat → Option Addr) (C : Nat → Nat), a = some ⟨b, off, none⟩ ∧ b < w.heap.size ∧ ∀ i es, ls[i]? = some es → w.cell? ⟨b, off + i, none⟩ = some (.slice (A i) es.length (C i)) ∧ RdE w (A i) es
theorem RdL.below {w w' : World} {a : Option Addr} {ls : List (List En)} (h : RdL w a ls) (hk : Below w.heap.size w w') : RdL w' a ls := by
  intro hz
  obtain ⟨b, off, A, C, e, hb, hc⟩ := h hz
  refine ⟨b, off, A, C, e, Nat.lt_of_lt_of_le hb hk.size, fun i es hx => ?_⟩
  obtain ⟨c0, r⟩ := hc i es hx
  exact ⟨(hk.cell (p := ⟨b, off + i, none⟩) hb).trans c0, r.below hk⟩
theorem RdL.at {w : World} {a : Option Addr} {ls : List (List En)} (h : RdL w a ls) {k : Nat} (hk : k < ls.length) :
    ∃ b off es x c, a = some ⟨b, off, none⟩ ∧ b < w.heap.size ∧ ls[k]? = some es ∧ w.cell? ⟨b, off + k, none⟩ = some (.slice x es.length c) ∧ RdE w x es := by
  obtain ⟨b, off, A, C, e, hb, hc⟩ := h (by intro e; simp [e] at hk)
  have hx : ls[k]? = some ls[k] := List.getElem?_eq_getElem hk
  obtain ⟨c0, r⟩ := hc k _ hx
  exact ⟨b, off, ls[k], A k, C k, e, hb, hx, c0, r⟩
theorem RdL.one {w : World} {a : Option Addr} {c : Nat} {es : List En} (h : RdE w a es) (t : TypeId) : RdL (w.alloc (.cells #[.slice a es.length c] t)) (some ⟨w.heap.size, 0, none⟩) [es] := by
  intro _
  refine ⟨w.heap.size, 0, fun _ => a, fun _ => c, rfl, by simp, fun i x hx => ?_⟩
  cases i with
  | zero =>
    simp at hx
    subst hx
    exact ⟨by simp, h.below (below_alloc _ _)⟩
  | succ i => simp at hx

/-- What the map has, of a list of layers. -/
def seeL (ls : List (List En)) (i : Nat) (p : Bs) : Option En := (ls[i]?).bind fun es => findE es p
theorem seeL_nil (i : Nat) (p : Bs) : seeL [] i p = none := by simp [seeL]
theorem seeL_snoc_nil (D : List (List En)) (i : Nat) (p : Bs) : seeL (D ++ [[]]) i p = seeL D i p := by
  unfold seeL
  rcases Nat.lt_trichotomy i D.length with h | h | h
  · rw [List.getElem?_append_left h]
  · subst h; simp [findE]
  · rw [List.getElem?_eq_none (by simp; omega), List.getElem?_eq_none (by omega)]
theorem seeL_step {D : List (List En)} {es : List En} {j : Nat} {e : En} (he : es[j]? = some e) (hn : ∀ x ∈ es.take j, x.path ≠ e.path) (i : Nat) (p : Bs) :
    (if i = D.length ∧ p = e.path then some e else seeL (D ++ [es.take j]) i p) = seeL (D ++ [es.take (j + 1)]) i p := by
  unfold seeL
  rcases Nat.lt_trichotomy i D.length with h | h | h
  · rw [List.getElem?_append_left h, List.getElem?_append_left h, if_neg (fun hh => by omega)]
  · subst h
    simp only [List.getElem?_append_right (Nat.le_refl _), Nat.sub_self, List.getElem?_cons_zero, Option.bind_some, true_and]
    rw [take_at he, find_snoc hn]
  · rw [List.getElem?_eq_none (by simp; omega), List.getElem?_eq_none (by simp; omega), if_neg (fun hh => by omega)]
theorem rise_new {es : List En} (h : Rise es) {j : Nat} {e : En} (he : es[j]? = some e) : ∀ x ∈ es.take j, x.path ≠ e.path := by
  intro x hx
  have h2 : Rise (es.take (j + 1)) := h.sublist (List.take_sublist _ _)
  rw [take_at he] at h2
  unfold Rise at h2
  rw [List.pairwise_append] at h2
  exact bl_ne (h2.2.2 x hx e (by simp))

set_option maxRecDepth 100000 in
set_option maxHeartbeats 6400000 in
theorem sightOf_any (a : Option Addr) (c n : Nat) (ls : List (List En)) (w : World) (h : RdL w a ls) (hn : n = ls.length) (hl : ls.length ≤ 4) (hF : ∀ es ∈ ls, Rise es ∧ es.length ≤ 12 ∧ SmallE es) :
    Calls Tryz.prog 24 #[.slice a n c] w fun r w' => ∃ b N, r = .returned (.map (some b)) ∧ w.heap.size ≤ b ∧ N ≤ 48 ∧ SeeM w w' b N (seeL ls) ∧ Below w.heap.size w w' := by
  subst hn
  have HR := hide h
  have HFt := hide hF
  clear h hF
  have hmm : ∀ u : World, (Instr.makeMap 57 none).run Tryz.prog u = .ok (.map (some u.heap.size)) (u.alloc (.map #[] 0)) := fun u => by simp [Instr.makeMap, Result.andThen]
  go_enter Tryz.func24, Tryz.ntmps24
  go_wp2_with fail
  go_loopw [11] (fun i wr => ∃ k N : Nat, k ≤ ls.length ∧ i = .int .i64 k ∧ N ≤ 12 * k ∧ Hid (SeeM w wr w.heap.size N (seeL (ls.take k))) ∧ Hid (Below w.heap.size w wr)) (fun i _ => ls.length - (intOf i).toNat)
  case atStart => exact ⟨0, 0, Nat.zero_le _, rfl, Nat.le_refl _, hide ((SeeM.made w w).congr (fun i p => (seeL_nil i p).symm)), hide (below_alloc _ _)⟩
  case round =>
    obtain ⟨k, N, hk, rfl, hN, HM, HW⟩ := hrel
    by_cases hlt : k < ls.length
    · obtain ⟨b0, o0, es, x0, c0, rfl, hb0, hes, cc0, hre⟩ := HR.out.at hlt
      have cw := (HW.out.cell (p := ⟨b0, o0 + k, none⟩) hb0).trans cc0
      have HE := hide hre
      have HES := hide hes
      obtain ⟨hri, hle, hsm⟩ := HFt.out es (List.mem_of_getElem? hes)
      have HRi := hide hri
      have HSm := hide hsm
      clear hes cc0 hre hri hsm
      have hkl : (ls.take k).length = k := by rw [List.length_take]; omega
      go_wp2_with fail
      go_loopw [18] (fun i w2 => ∃ j N2 : Nat, j ≤ es.length ∧ i = .int .i64 j ∧ N2 ≤ 12 * k + j ∧ Hid (SeeM w w2 w.heap.size N2 (seeL (ls.take k ++ [es.take j]))) ∧ Hid (Below w.heap.size w w2)) (fun i _ => es.length - (intOf i).toNat)
      case atStart => exact ⟨0, N, Nat.zero_le _, rfl, by omega, hide (HM.out.congr (fun i p => (seeL_snoc_nil _ i p).symm)), HW⟩
      case round =>
        obtain ⟨j, N2, hj, rfl, hN2, HM2, HW2⟩ := hrel
        by_cases hjl : j < es.length
        · obtain ⟨b, off, e, x, cc, rfl, hb, he, c0, c1, c2, c3, hr⟩ := HE.out.at hjl
          have c0 := (HW2.out.cell (p := ⟨b, off + j * 4, none⟩) hb).trans c0
          have c1 := (HW2.out.cell (p := ⟨b, off + j * 4 + 1, none⟩) hb).trans c1
          have c2 := (HW2.out.cell (p := ⟨b, off + j * 4 + 2, none⟩) hb).trans c2
          have c3 := (HW2.out.cell (p := ⟨b, off + j * 4 + 3, none⟩) hb).trans c3
          have HX := hide he
          have HRc := hide hr
          have hsm := (HSm.out e (List.mem_of_getElem? he)).1
          have HNew := hide (rise_new HRi.out he)
          clear he hr
          have BA := hide ((below_alloc wr (.cells #[.string (str e.path), .int .i64 e.kind, .int .i64 e.size, .slice x e.chunks.length cc] 40)).drew)
          have F4 : Hid (Four (wr.alloc (.cells #[.string (str e.path), .int .i64 e.kind, .int .i64 e.size, .slice x e.chunks.length cc] 40)).drew wr.heap.size _ _ _ _) := hide (Four.new wr (.string (str e.path)) (.int .i64 e.kind) (.int .i64 e.size) (.slice x e.chunks.length cc) 40)
          go_wp2_with fail
          go_region_law
            (go_simp; go_wp2_with (go_at_call 41; refine (itemOf_any _ _ _ _ _ _ _).mono ?_; rintro r w3 ⟨rfl, hb3⟩; have BB3 := hide (below_next BA.out hb3); obtain ⟨f0, f1, f2, f3⟩ := F4.out.below hb3; obtain ⟨Dt, hown, hput⟩ := (HM2.out.below BB3.out).put (i := k) (p := e.path) (e := e) (c := cc) (by omega) hsm HRc.out; obtain ⟨w4, hrun, r1, r2⟩ := hown.update spotLaw Tryz.underlying57 (by unfold maxLen; omega) (spot_key (i := k) (p := e.path) (by omega) hsm) (val := itV e x cc) rfl; have HP4 := hide (hput w4 r1); have HG4 := hide r2; clear hb3 hown hput r1 r2; unfold spotV itV at hrun))
          all_goals
            have HN4 : Hid (SeeM w w4 w.heap.size (N2 + 1) (seeL (ls.take k ++ [es.take (j + 1)]))) := hide (HP4.out.congr (fun i p => by have := seeL_step (D := ls.take k) HX.out HNew.out i p; rw [hkl] at this; exact this))
            have B4 := hide ((below_next HW2.out BB3.out).trans ((see_grown HG4.out).below (Nat.le_trans HW2.out.size BB3.out.size) (fun q hq e => by omega)))
            go_wp2_with fail
            go_roundw
            case rel => exact ⟨j + 1, N2 + 1, by omega, by go_num, by omega, HN4, B4⟩
            case measure => simp [intOf]; omega
        · have HE2 := hide (show es.take j = es from List.take_of_length_le (by omega))
          go_wp2_with fail
          go_roundw
          case rel => exact ⟨k + 1, N2, by omega, by go_num, by omega, hide (HM2.out.congr (fun i p => by rw [HE2.out, take_at HES.out])), HW2⟩
          case measure => simp [intOf]; omega
    · have HE := hide (show ls.take k = ls from List.take_of_length_le (by omega))
      go_wp2_with fail
      go_ret
      exact ⟨_, N, rfl, Nat.le_refl _, by omega, by have := HM.out; rw [HE.out] at this; exact this, HW.out⟩

end Go.Proofs.YtjkmbicedbdifaaGreat

namespace Go.Proofs.YtjkmbicedbdifaaGreat
open Go.RowKit Go.Maps
set_option linter.unusedVariables false
attribute [local go_sem ↓] Go.wp_at_zero Go.wp_at_succ

set_option maxRecDepth 100000 in
set_option maxHeartbeats 1600000 in
theorem hides_any (b N i : Nat) (p : Bs) (S : Nat → Bs → Option En) (w0 w : World) (h : SeeM w0 w b N S) (hi : i ≤ 100) (hp : p.length ≤ 1048576) :
    Calls Tryz.prog 120 #[.map (some b), .int .i64 i, .string (str p)] w fun r w' => r = .returned (.bool ((S i p).any fun e => !decide (e.kind = 2))) ∧ Below w.heap.size w w' := by
  cases hS : S i p with
  | none =>
    have HL := hide (h.no hi hp hS)
    clear h hS
    go_enter Tryz.func120, Tryz.ntmps120
    go_wp2_with (at_lookup; refine wpList_lookS rfl _ _ 57 true rfl _ _ _ rfl rfl HL.out ?_)
    go_ret
    exact ⟨rfl, below_alloc _ _⟩
  | some e =>
    obtain ⟨x, cc, hl, -, -⟩ := h.yes hi hp hS
    have HL := hide hl
    clear h hS hl
    by_cases hk : e.kind = 2
    · have hk' : (e.kind == 2) = true := by simpa using hk
      have HV := hide (show ((some e).any fun e => !decide (e.kind = 2)) = (e.kind != 2) by simp [hk])
      clear hk hk'
      unfold itV at HL
      go_enter Tryz.func120, Tryz.ntmps120
      go_wp2_with (at_lookup; refine wpList_lookS rfl _ _ 57 true rfl _ _ _ rfl rfl HL.out ?_)
      go_ret
      exact ⟨ret_bool HV.out.symm, below_alloc _ _⟩
    · have hk' : (e.kind == 2) = false := by simpa using hk
      have HV := hide (show ((some e).any fun e => !decide (e.kind = 2)) = (e.kind != 2) by simp [hk])
      clear hk hk'
      unfold itV at HL
      go_enter Tryz.func120, Tryz.ntmps120
      go_wp2_with (at_lookup; refine wpList_lookS rfl _ _ 57 true rfl _ _ _ rfl rfl HL.out ?_)
      go_ret
      exact ⟨ret_bool HV.out.symm, below_alloc _ _⟩

/-- A closure that answers f of a text, in worlds that came of W0. -/
def AsksS (W0 : World) (fn : FuncId) (cap : Array Value) (f : Bs → Bool) : Prop :=
  (∀ args w, (callFunc fn args).run Tryz.prog w = .ok (.enter fn args) w) ∧ ∀ (s : Bs) (w : World), s.length ≤ 1048576 → Below W0.heap.size W0 w →
    Calls Tryz.prog fn (#[.string (str s)] ++ cap) w fun r w' => r = .returned (.bool (f s)) ∧ Below w.heap.size w w'

set_option maxRecDepth 100000 in
set_option maxHeartbeats 3200000 in
theorem indexFuncS_any (a : Option Addr) (c n : Nat) (ps : List Bs) (fn : FuncId) (cap : Array Value) (f : Bs → Bool) (w : World) (h : ReadsS w a ps) (hn : n = ps.length) (hl : ps.length ≤ 1048576) (hs : ∀ p ∈ ps, p.length ≤ 1048576) (hf : AsksS w fn cap f) :
    Calls Tryz.prog 149 #[.slice a n c, .func (.func fn) #[] cap] w fun r w' => ((∃ k : Nat, r = .returned (.int .i64 k) ∧ ps.any f = true) ∨ (r = .returned (.int .i64 (-1)) ∧ ps.any f = false)) ∧ Below w.heap.size w w' := by
  subst hn
  have eg := hf.1
  have HF := hide hf
  have HR := hide h
  have HS := hide hs
  clear h hf hs
  go_enter Tryz.func149, Tryz.ntmps149
  go_wp2_with fail
  go_loopw [8] (fun i wr => ∃ k : Nat, k ≤ ps.length ∧ i = .int .i64 k ∧ Hid (ps.any f = (ps.drop k).any f) ∧ Hid (Below w.heap.size w wr)) (fun i _ => ps.length - (intOf i).toNat)
  case atStart => exact ⟨0, Nat.zero_le _, rfl, hide (by simp), hide (Below.refl _ _)⟩
  case round =>
    obtain ⟨k, hk, rfl, HFi, HW⟩ := hrel
    by_cases hlt : k < ps.length
    · obtain ⟨b, off, rfl, hb, hc⟩ := (HR.out.below HW.out) (by intro e; simp [e] at hlt)
      have c0 := hc k hlt
      have hx : ps[k]? = some (ps.getD k []) := by rw [List.getD_eq_getElem?_getD, List.getElem?_eq_getElem hlt]; rfl
      have hd : ps.drop k = ps.getD k [] :: ps.drop (k + 1) := by
        rw [List.drop_eq_getElem_cons hlt]; congr 1; rw [List.getD_eq_getElem?_getD, List.getElem?_eq_getElem hlt]; rfl
      have hsm := HS.out _ (List.mem_of_getElem? hx)
      have HD := hide (HFi.out.trans (by rw [hd, List.any_cons]))
      clear hc hd hx
      generalize ps.getD k [] = q at *
      go_wp2_with fail
      refine (HF.out.2 q _ hsm HW.out).mono ?_
      rintro r w3 ⟨rfl, hb3⟩
      have B3 := hide (below_next HW.out hb3)
      clear hb3 c0
      cases hq : f q
      · have HN := hide (show ps.any f = (ps.drop (k + 1)).any f by rw [HD.out, hq, Bool.false_or])
        clear hq
        go_wp2_with fail
        go_roundw
        case rel => exact ⟨k + 1, by omega, by go_num, HN, B3⟩
        case measure => simp [intOf]; omega
      · have HN := hide (show ps.any f = true by rw [HD.out, hq, Bool.true_or])
        clear hq
        go_wp2_with fail
        go_ret
        exact ⟨.inl ⟨k, rfl, HN.out⟩, B3.out⟩
    · have HN := hide (show ps.any f = false by rw [HFi.out, List.drop_eq_nil_of_le (by omega)]; rfl)
      go_wp2_with fail
      go_ret
      exact ⟨.inr ⟨rfl, HN.out⟩, HW.out⟩
set_option maxRecDepth 100000 in
set_option maxHeartbeats 800000 in
theorem containsFuncS_any (a : Option Addr) (c n : Nat) (ps : List Bs) (fn : FuncId) (cap : Array Value) (f : Bs → Bool) (w : World) (h : ReadsS w a ps) (hn : n = ps.length) (hl : ps.length ≤ 1048576) (hs : ∀ p ∈ ps, p.length ≤ 1048576) (hf : AsksS w fn cap f) :
    Calls Tryz.prog 117 #[.slice a n c, .func (.func fn) #[] cap] w fun r w' => r = .returned (.bool (ps.any f)) ∧ Below w.heap.size w w' := by
  subst hn
  have HC := hide (indexFuncS_any a c ps.length ps fn cap f w h rfl hl hs hf)
  clear h hf hs
  go_enter Tryz.func117, Tryz.ntmps117
  go_wp2_with fail
  refine HC.out.mono ?_
  rintro r w1 ⟨(⟨k, rfl, hi⟩ | ⟨rfl, hi⟩), hb⟩
  · have hk0 : (0 : Int) ≤ (k : Int) := by omega
    have HI := hide hi
    have HB := hide hb
    clear hi hb HC
    go_wp2_with fail
    go_ret
    exact ⟨ret_bool HI.out.symm, HB.out⟩
  · have HI := hide hi
    have HB := hide hb
    clear hi hb HC
    go_wp2_with fail
    go_ret
    exact ⟨ret_bool HI.out.symm, HB.out⟩

set_option maxRecDepth 100000 in
set_option maxHeartbeats 800000 in
theorem hidesLit_any (b N i b1 b2 : Nat) (q : Bs) (S : Nat → Bs → Option En) (w0 w : World) (h : SeeM w0 w b N S) (hi : i ≤ 100) (hq : q.length ≤ 1048576) (h1 : w.cell? ⟨b1, 0, none⟩ = some (.map (some b))) (h2 : w.cell? ⟨b2, 0, none⟩ = some (.int .i64 i)) :
    Calls Tryz.prog 119 #[.string (str q), .pointer (some ⟨b1, 0, none⟩), .pointer (some ⟨b2, 0, none⟩)] w fun r w' => r = .returned (.bool ((S i q).any fun e => !decide (e.kind = 2))) ∧ Below w.heap.size w w' := by
  have HC := hide (hides_any b N i q S w0 w h hi hq)
  clear h
  go_enter Tryz.func119, Tryz.ntmps119
  go_wp2_with fail
  refine HC.out.mono ?_
  rintro r w1 ⟨rfl, hb⟩
  have HB := hide hb
  clear hb
  go_wp2_with fail
  go_ret
  exact ⟨rfl, HB.out⟩
set_option maxRecDepth 100000 in
set_option maxHeartbeats 1600000 in
theorem hidesAbove_any (b N i : Nat) (p : Bs) (S : Nat → Bs → Option En) (w0 w : World) (h : SeeM w0 w b N S) (hi : i ≤ 100) (hp : p.length ≤ 1048576) :
    Calls Tryz.prog 76 #[.map (some b), .int .i64 i, .string (str p)] w fun r w' => r = .returned (.bool ((above p).any fun q => (S i q).any fun e => !decide (e.kind = 2))) ∧ Below w.heap.size w w' := by
  have hmf : ∀ (fn : Fn) (first cap : Array Value) (w : World), (Instr.makeFunc fn first cap).run Tryz.prog w = .ok (.func fn first cap) w := fun _ _ _ _ => rfl
  have B0 := hide (below_next (below_alloc w (.cells #[.map (some b)] 57)) (below_alloc _ (.cells #[.int .i64 i] 3)))
  have HM := hide h
  clear h
  have hsz := str_size p
  go_enter Tryz.func76, Tryz.ntmps76
  go_wp2_with fail
  refine (implAboveOf_any (str p) _ (by omega)).mono ?_
  rintro r w1 ⟨av, cv, rfl, ho, hb⟩
  have B1 := hide (below_next B0.out hb)
  have RS := hide (OwnS.reads ho)
  have HM1 := hide (HM.out.below B1.out)
  have q1 : w1.cell? ⟨w.heap.size, 0, none⟩ = some (.map (some b)) := (hb.cell (p := ⟨w.heap.size, 0, none⟩) (by simp; omega)).trans (by simp)
  have q2 : w1.cell? ⟨w.heap.size + 1, 0, none⟩ = some (.int .i64 i) := (hb.cell (p := ⟨w.heap.size + 1, 0, none⟩) (by simp)).trans (by simp)
  have hsm : ∀ u ∈ above p, u.length ≤ 1048576 := by
    intro u hu
    by_cases hpf : faultP p = 0
    · have := above_small hpf u hu; omega
    · rw [above_bad hpf] at hu; simp at hu
  have HQ : Hid (AsksS w1 119 #[.pointer (some ⟨w.heap.size, 0, none⟩), .pointer (some ⟨w.heap.size + 1, 0, none⟩)] (fun q => (S i q).any fun e => !decide (e.kind = 2))) :=
    hide ⟨enters_of Tryz.func119 (by kernel_rfl) rfl, fun q w' hq hb' => hidesLit_any b N i w.heap.size (w.heap.size + 1) q S w0 w' (HM1.out.below hb') hi hq ((hb'.cell (p := ⟨w.heap.size, 0, none⟩) (World.block_lt_of_cell? w1 _ q1)).trans q1) ((hb'.cell (p := ⟨w.heap.size + 1, 0, none⟩) (World.block_lt_of_cell? w1 _ q2)).trans q2)⟩
  have HSD := hide (str_data p)
  rw [HSD.out] at RS ⊢
  have hal := above_len p
  have HCF := hide (containsFuncS_any av cv (above p).length (above p) _ _ _ w1 RS.out rfl (by omega) hsm HQ.out)
  clear ho hb q1 q2 hsm
  have hfield : ∀ (c v : Value) (w : World), (Instr.field 28 (.agg #[c, v]) 1).run Tryz.prog w = .ok v w := fun c v w => by kernel_rfl
  go_wp2_with fail
  refine HCF.out.mono ?_
  rintro r w2 ⟨rfl, hb2⟩
  have B2 := hide (below_next B1.out hb2)
  clear hb2
  go_wp2_with fail
  go_ret
  exact ⟨rfl, B2.out⟩
end Go.Proofs.YtjkmbicedbdifaaGreat

namespace Go.Proofs.YtjkmbicedbdifaaGreat
open Go.RowKit Go.Maps
set_option linter.unusedVariables false
attribute [local go_sem ↓] Go.wp_at_zero Go.wp_at_succ

theorem seeL_one (es : List En) (p : Bs) : seeL [es] 0 p = findE es p := by simp [seeL]
end Go.Proofs.YtjkmbicedbdifaaGreat

namespace Go.Proofs.YtjkmbicedbdifaaGreat
open Go.RowKit Go.Maps
set_option linter.unusedVariables false
attribute [local go_sem ↓] Go.wp_at_zero Go.wp_at_succ

/-- The fault of layers, one by one. -/
def lsFrom : List (List En) → Int
  | [] => 0
  | es :: r => if layFaultP es = 0 then lsFrom r else layFaultP es
def layersP (ls : List (List En)) : Int := if 4 < ls.length then 2 else lsFrom ls
theorem lsFrom_zero : ∀ {ls : List (List En)}, lsFrom ls = 0 ↔ ∀ es ∈ ls, Right es
  | [] => by simp [lsFrom]
  | es :: r => by
    have ih := lsFrom_zero (ls := r)
    unfold lsFrom
    by_cases h : layFaultP es = 0
    · rw [if_pos h, ih]
      simp [right_P.1 h]
    · rw [if_neg h]
      constructor
      · intro h2; exact absurd h2 h
      · intro h2; exact absurd (right_P.2 (h2 es (by simp))) h
theorem layersP_zero {ls : List (List En)} : layersP ls = 0 ↔ ls.length ≤ 4 ∧ ∀ es ∈ ls, Right es := by
  unfold layersP
  by_cases h : 4 < ls.length
  · rw [if_pos h]; constructor
    · intro h2; cases h2
    · intro h2; omega
  · rw [if_neg h, lsFrom_zero]; constructor
    · intro h2; exact ⟨by omega, h2⟩
    · intro h2; exact h2.2
theorem lsFrom_bad {ls : List (List En)} {k : Nat} {es : List En} (he : ls[k]? = some es) (hf : layFaultP es ≠ 0) : lsFrom (ls.drop k) = layFaultP es := by
  obtain ⟨hk, hx⟩ := List.getElem?_eq_some_iff.1 he
  rw [List.drop_eq_getElem_cons hk, hx]
  simp [lsFrom, hf]
theorem lsFrom_next {ls : List (List En)} {k : Nat} {es : List En} (he : ls[k]? = some es) (hf : layFaultP es = 0) : lsFrom (ls.drop k) = lsFrom (ls.drop (k + 1)) := by
  obtain ⟨hk, hx⟩ := List.getElem?_eq_some_iff.1 he
  rw [List.drop_eq_getElem_cons hk, hx]
  simp [lsFrom, hf]
/-- Layers that are not too great for the walks. -/
def SmallL (ls : List (List En)) : Prop := ∀ es ∈ ls, es.length ≤ 1000000 ∧ SmallE es

set_option maxRecDepth 100000 in
set_option maxHeartbeats 3200000 in
theorem implLayersFault_any (a : Option Addr) (c n : Nat) (ls : List (List En)) (w : World) (h : RdL w a ls) (hn : n = ls.length) (hl : ls.length ≤ 1048576) (hs : SmallL ls) :
    Calls Tryz.prog 10 #[.slice a n c] w fun r w' => r = .returned (.int .i64 (layersP ls)) ∧ Below w.heap.size w w' := by
  subst hn
  have HR := hide h
  have HS := hide hs
  clear h hs
  by_cases h4 : 4 < ls.length
  · have HZ := hide (show layersP ls = 2 by simp [layersP, h4])
    have h4' : (4 : Int) < (ls.length : Int) := by omega
    go_enter Tryz.func10, Tryz.ntmps10
    go_wp2_with fail
    go_ret
    exact ⟨by rw [HZ.out]; rfl, Below.refl _ _⟩
  · have HZ := hide (show layersP ls = lsFrom (ls.drop 0) by simp [layersP, h4])
    have h4' : ¬ (4 : Int) < (ls.length : Int) := by omega
    clear h4
    generalize layersP ls = V at *
    go_enter Tryz.func10, Tryz.ntmps10
    go_wp2_with fail
    go_loopw [11] (fun i wr => ∃ k : Nat, k ≤ ls.length ∧ i = .int .i64 k ∧ Hid (V = lsFrom (ls.drop k)) ∧ Hid (Below w.heap.size w wr)) (fun i _ => ls.length - (intOf i).toNat)
    case atStart => exact ⟨0, Nat.zero_le _, rfl, HZ, hide (Below.refl _ _)⟩
    case round =>
      obtain ⟨k, hk, rfl, HV, HW⟩ := hrel
      by_cases hlt : k < ls.length
      · obtain ⟨b, off, es, x, cc, rfl, hb, he, c0, hr⟩ := (HR.out.below HW.out).at hlt
        obtain ⟨hel, hsm⟩ := HS.out es (List.mem_of_getElem? he)
        have HLF := hide (implLayerFault_any x cc es.length es wr hr rfl (by omega) hsm)
        have HX := hide he
        clear he hr hsm
        by_cases hf : layFaultP es = 0
        · have HN := hide (HV.out.trans (lsFrom_next HX.out hf))
          rw [hf] at HLF
          clear hf
          go_wp2_with fail
          refine HLF.out.mono ?_
          rintro r w1 ⟨rfl, hb1⟩
          have B1 := hide (below_next HW.out hb1)
          clear hb1 c0
          go_wp2_with fail
          go_roundw
          case rel => exact ⟨k + 1, by omega, by go_num, HN, B1⟩
          case measure => simp [intOf]; omega
        · have HN := hide (HV.out.trans (lsFrom_bad HX.out hf))
          generalize layFaultP es = F at *
          have hf2 : (F != 0) = true := by simp; exact hf
          clear hf
          go_wp2_with fail
          refine HLF.out.mono ?_
          rintro r w1 ⟨rfl, hb1⟩
          have B1 := hide (below_next HW.out hb1)
          clear hb1 c0
          go_wp2_with fail
          go_ret
          exact ⟨by rw [HN.out]; rfl, B1.out⟩
      · have HN := hide (show V = 0 by rw [HV.out, List.drop_eq_nil_of_le (by omega)]; rfl)
        go_wp2_with fail
        go_ret
        exact ⟨by rw [HN.out]; rfl, HW.out⟩
/-- Which of the n lowest layers' entry is seen. -/
def seenG (S : Nat → Bs → Option En) (p : Bs) : Nat → Option Nat
  | 0 => none
  | n + 1 => match S n p with
    | some e => if e.kind = 3 then none else some n
    | none => if (above p).any (fun q => (S n q).any fun e => !decide (e.kind = 2)) then none else seenG S p n
theorem seen_hit {S : Nat → Bs → Option En} {p : Bs} {n : Nat} {e : En} (h : S n p = some e) : seenG S p (n + 1) = if e.kind = 3 then none else some n := by simp [seenG, h]
theorem seen_hid {S : Nat → Bs → Option En} {p : Bs} {n : Nat} (h : S n p = none) (hh : ((above p).any fun q => (S n q).any fun e => !decide (e.kind = 2)) = true) : seenG S p (n + 1) = none := by simp [seenG, h, hh]
theorem seen_down {S : Nat → Bs → Option En} {p : Bs} {n : Nat} (h : S n p = none) (hh : ((above p).any fun q => (S n q).any fun e => !decide (e.kind = 2)) = false) : seenG S p (n + 1) = seenG S p n := by simp [seenG, h, hh]
/-- What seenAt answers. -/
def ResW (o : Option Nat) (p : Bs) (w : World) (r : Ending) (w' : World) : Prop :=
  (match o with
    | some n => r = .returned (.tuple #[spotV n p, .bool true])
    | none => ∃ v s, r = .returned (.tuple #[.agg #[.int .i64 v, .string s], .bool false])) ∧ Below w.heap.size w w'
end Go.Proofs.YtjkmbicedbdifaaGreat

namespace Go.Proofs.YtjkmbicedbdifaaGreat
open Go.RowKit Go.Maps
set_option linter.unusedVariables false
attribute [local go_sem ↓] Go.wp_at_zero Go.wp_at_succ

set_option maxRecDepth 100000 in
set_option maxHeartbeats 6400000 in
theorem seenAt_any (b N : Nat) (p : Bs) (S : Nat → Bs → Option En) (w0 w : World) (h : SeeM w0 w b N S) (hp : p.length ≤ 1048576) :
    Calls Tryz.prog 36 #[.map (some b), .string (str p)] w (ResW (seenG S p 4) p w) := by
  have X0 := hide (Box.new w (.int .i64 0) (.string ⟨#[]⟩) 73)
  have B0 := hide (below_alloc w (.cells #[.int .i64 0, .string ⟨#[]⟩] 73))
  have M0 := hide (h.below B0.out)
  clear h
  go_enter Tryz.func36, Tryz.ntmps36
  go_wp2_with fail
  generalize w.alloc (.cells #[.int .i64 0, .string ⟨#[]⟩] 73) = W0 at *
  go_loopw [6] (fun i wr => ∃ n : Nat, n ≤ 4 ∧ i = .int .i64 ((n : Int) - 1) ∧ Hid (seenG S p 4 = seenG S p n) ∧ Hid (Below W0.heap.size W0 wr)) (fun i _ => (intOf i + 1).toNat)
  case atStart => exact ⟨4, Nat.le_refl _, rfl, hide rfl, hide (Below.refl _ _)⟩
  case round =>
    obtain ⟨n, hn, hi, HV, HW⟩ := hrel
    cases n with
    | zero =>
      rw [show ((0 : Nat) : Int) - 1 = -1 from rfl] at hi
      subst hi
      have HN := hide (show seenG S p 4 = none from HV.out)
      obtain ⟨⟨t0, t1⟩, t2, t3⟩ := X0.out.below HW.out
      clear HV
      go_wp2_with fail
      refine bodyPost_ret (v := .tuple #[.agg #[.int .i64 0, .string ⟨#[]⟩], .bool false]) (by simp [results, Tryz.results36, go_sem, t0, t1]) rfl ?_
      rw [HN.out]
      exact ⟨⟨0, ⟨#[]⟩, rfl⟩, ((below_next B0.out HW.out).setCell (p := ⟨w.heap.size, 0, none⟩) (Nat.le_refl _) _).setCell (p := ⟨w.heap.size, 1, none⟩) (Nat.le_refl _) _⟩
    | succ m =>
      rw [show ((m + 1 : Nat) : Int) - 1 = (m : Int) from by omega] at hi
      subst hi
      have hm0 : (0 : Int) ≤ (m : Int) := by omega
      have MW := hide (M0.out.below HW.out)
      have BS := hide (below_alloc wr (.cells #[.int .i64 m, .string (str p)] 73))
      have MS := hide (MW.out.below BS.out)
      cases hS : S m p with
      | none =>
        have HL := hide (MS.out.no (i := m) (p := p) (by omega) hp hS)
        have BI := hide (below_next BS.out (below_alloc _ (.cells #[.int .i64 0, .slice none 0 0, .string ⟨#[]⟩, .int .i64 0] 64)))
        have HHA := hide (hidesAbove_any b N m p S w0 _ (MW.out.below BI.out) (by omega) hp)
        have hm1 : IntKind.i64.wrap ((m : Int) - 1) = (m : Int) - 1 := by simp [IntKind.wrap, IntKind.signed, IntKind.bits]; omega
        cases hh : (above p).any fun q => (S m q).any fun e => !decide (e.kind = 2)
        · have HN := hide (HV.out.trans (seen_down hS hh))
          rw [hh] at HHA
          clear hh hS
          go_wp2_with (at_lookup; refine wpList_lookS rfl _ _ 57 true rfl _ _ _ rfl rfl HL.out ?_)
          refine HHA.out.mono ?_
          rintro r w2 ⟨rfl, hb2⟩
          have B2 := hide (below_next (below_next HW.out BI.out) hb2)
          clear hb2
          go_wp2_with fail
          go_roundw
          case rel => exact ⟨m, by omega, by first | rfl | go_num, HN, B2⟩
          case measure => simp [intOf] <;> omega
        · have HN := hide (HV.out.trans (seen_hid hS hh))
          rw [hh] at HHA
          clear hh hS
          go_wp2_with (at_lookup; refine wpList_lookS rfl _ _ 57 true rfl _ _ _ rfl rfl HL.out ?_)
          refine HHA.out.mono ?_
          rintro r w2 ⟨rfl, hb2⟩
          have B2 := hide (below_next (below_next HW.out BI.out) hb2)
          obtain ⟨⟨t0, t1⟩, t2, t3⟩ := X0.out.below B2.out
          clear hb2
          go_wp2_with fail
          refine bodyPost_ret (v := .tuple #[.agg #[.int .i64 0, .string ⟨#[]⟩], .bool false]) (by simp [results, Tryz.results36, go_sem, t0, t1]) rfl ?_
          rw [HN.out]
          exact ⟨⟨0, ⟨#[]⟩, rfl⟩, ((below_next B0.out B2.out).setCell (p := ⟨w.heap.size, 0, none⟩) (Nat.le_refl _) _).setCell (p := ⟨w.heap.size, 1, none⟩) (Nat.le_refl _) _⟩
      | some e =>
        obtain ⟨x, cc, hl, -, -⟩ := MS.out.yes (i := m) (p := p) (by omega) hp hS
        have HL := hide hl
        have HN := hide (HV.out.trans (seen_hit hS))
        unfold itV at HL
        clear hl hS
        have BI := hide (below_next BS.out (below_alloc _ (.cells #[.int .i64 e.size, .slice x e.chunks.length cc, .string (str e.path), .int .i64 e.kind] 64)))
        have B2 := hide (below_next B0.out (below_next HW.out BI.out))
        obtain ⟨⟨t0, t1⟩, t2, t3⟩ := (X0.out.below HW.out).below BI.out
        by_cases hk : e.kind = 3
        · rw [if_pos hk] at HN
          have hk' : (e.kind != 3) = false := by simp [hk]
          clear hk
          go_wp2_with (at_lookup; refine wpList_lookS rfl _ _ 57 true rfl _ _ _ rfl rfl HL.out ?_)
          go_region
          all_goals
            go_wp2_with fail
            refine bodyPost_ret (v := .tuple #[.agg #[.int .i64 m, .string (str p)], .bool false]) (by simp [results, Tryz.results36, go_sem, t0, t1]) rfl ?_
            rw [HN.out]
            exact ⟨⟨m, str p, rfl⟩, (B2.out.drew.setCell (p := ⟨w.heap.size, 0, none⟩) (Nat.le_refl _) _).setCell (p := ⟨w.heap.size, 1, none⟩) (Nat.le_refl _) _⟩
        · rw [if_neg hk] at HN
          have hk' : (e.kind != 3) = true := by simpa using hk
          clear hk
          go_wp2_with (at_lookup; refine wpList_lookS rfl _ _ 57 true rfl _ _ _ rfl rfl HL.out ?_)
          go_region
          all_goals
            go_wp2_with fail
            refine bodyPost_ret (v := .tuple #[.agg #[.int .i64 m, .string (str p)], .bool true]) (by simp [results, Tryz.results36, go_sem, t0, t1]) rfl ?_
            rw [HN.out]
            exact ⟨rfl, (B2.out.drew.setCell (p := ⟨w.heap.size, 0, none⟩) (Nat.le_refl _) _).setCell (p := ⟨w.heap.size, 1, none⟩) (Nat.le_refl _) _⟩
end Go.Proofs.YtjkmbicedbdifaaGreat

namespace Go.Proofs.YtjkmbicedbdifaaGreat
open Go.RowKit Go.Maps
set_option linter.unusedVariables false
attribute [local go_sem ↓] Go.wp_at_zero Go.wp_at_succ

def askL (ls : List (List En)) (p : Bs) : Int := if layersP ls = 0 then faultP p else layersP ls
theorem askL_right {ls : List (List En)} {p : Bs} (h : askL ls p = 0) : ls.length ≤ 4 ∧ (∀ es ∈ ls, Right es) ∧ faultP p = 0 := by
  unfold askL at h
  split at h
  · rename_i h1
    exact ⟨(layersP_zero.1 h1).1, (layersP_zero.1 h1).2, h⟩
  · rename_i h1; exact absurd h h1
set_option maxRecDepth 100000 in
set_option maxHeartbeats 1600000 in
theorem implAskL_any (a : Option Addr) (c n : Nat) (ls : List (List En)) (p : Bs) (w : World) (h : RdL w a ls) (hn : n = ls.length) (hl : ls.length ≤ 1048576) (hs : SmallL ls) (hp : p.length ≤ 1048576) :
    Calls Tryz.prog 35 #[.slice a n c, .string (str p)] w fun r w' => r = .returned (.int .i64 (askL ls p)) ∧ Below w.heap.size w w' := by
  subst hn
  have hsz := str_size p
  have HLF := hide (implLayersFault_any a c ls.length ls w h rfl hl hs)
  have HPF : Hid (∀ w', Calls Tryz.prog 75 #[.string (str p)] w' fun e w2 => e = .returned (.int .i64 (faultP p)) ∧ Below w'.heap.size w' w2) := hide (fun w' => by have h1 := implPathFault_any (str p) w' (by omega); rw [str_data] at h1; exact h1)
  clear h hs
  by_cases hz : layersP ls = 0
  · have HZ := hide (show askL ls p = faultP p by simp [askL, hz])
    rw [hz] at HLF
    clear hz
    generalize askL ls p = V at *
    generalize faultP p = F at *
    go_enter Tryz.func35, Tryz.ntmps35
    go_wp2_with fail
    refine HLF.out.mono ?_
    rintro r w1 ⟨rfl, hb1⟩
    have B1 := hide hb1
    clear hb1
    go_wp2_with fail
    refine (HPF.out w1).mono ?_
    rintro r w2 ⟨rfl, hb2⟩
    have B2 := hide (below_next B1.out hb2)
    clear hb2
    go_wp2_with fail
    go_ret
    exact ⟨by rw [HZ.out]; rfl, B2.out⟩
  · have HZ := hide (show askL ls p = layersP ls by simp [askL, hz])
    generalize askL ls p = V at *
    generalize layersP ls = F at *
    have hz2 : (F != 0) = true := by simp; exact hz
    clear hz
    go_enter Tryz.func35, Tryz.ntmps35
    go_wp2_with fail
    refine HLF.out.mono ?_
    rintro r w1 ⟨rfl, hb1⟩
    have B1 := hide hb1
    clear hb1
    go_wp2_with fail
    go_ret
    exact ⟨by rw [HZ.out]; rfl, B1.out⟩
set_option maxRecDepth 100000 in
set_option maxHeartbeats 1600000 in
theorem ofTree_any (e : En) (x : Option Addr) (cc : Nat) (w : World) (hk : e.kind = 1 ∨ e.kind = 2 ∨ e.kind = 3 ∨ e.kind = 4) :
    Calls Tryz.prog 38 #[itV e x cc] w fun r w' => r = .returned (itV (asT e) x cc) ∧ Below w.heap.size w w' := by
  unfold itV
  have B0 := hide (below_next (below_alloc w (.cells #[.int .i64 e.size, .slice x e.chunks.length cc, .string (str e.path), .int .i64 e.kind] 64)) (below_alloc _ (.cells #[.int .i64 0, .slice none 0 0, .string ⟨#[]⟩, .int .i64 0] 64)))
  have F0 := hide ((Box4.new w (.int .i64 e.size) (.slice x e.chunks.length cc) (.string (str e.path)) (.int .i64 e.kind) 64).below (below_alloc _ (.cells #[.int .i64 0, .slice none 0 0, .string ⟨#[]⟩, .int .i64 0] 64)))
  have G0 := hide (Box4.new (w.alloc (.cells #[.int .i64 e.size, .slice x e.chunks.length cc, .string (str e.path), .int .i64 e.kind] 64)) (.int .i64 0) (.slice none 0 0) (.string ⟨#[]⟩) (.int .i64 0) 64)
  have hsz : (w.alloc (.cells #[.int .i64 e.size, .slice x e.chunks.length cc, .string (str e.path), .int .i64 e.kind] 64)).heap.size = w.heap.size + 1 := by simp
  rw [hsz] at G0
  have HT := hide (show dirK e.kind = true → asT e = { e with kind := 2 } from fun hd => by
    rcases hk with h | h | h | h <;> rw [h] at hd <;> simp [dirK] at hd
    · cases e; simp at h; subst h; simp [asT]
    · simp [asT, h, kindE])
  have HT2 := hide (show dirK e.kind = false → asT e = e from fun hd => by
    rcases hk with h | h | h | h <;> rw [h] at hd <;> simp [dirK] at hd
    · simp [asT, h]
    · simp [asT, h])
  clear hsz hk
  obtain ⟨⟨f0, f1, f2, f3⟩, -⟩ := F0.out
  go_enter Tryz.func38, Tryz.ntmps38
  go_wp2_with fail
  generalize (w.alloc (.cells #[.int .i64 e.size, .slice x e.chunks.length cc, .string (str e.path), .int .i64 e.kind] 64)).alloc (.cells #[.int .i64 0, .slice none 0 0, .string ⟨#[]⟩, .int .i64 0] 64) = W0 at *
  refine (isDir_any _ _ _ _ _ _ _).mono ?_
  rintro r w1 ⟨rfl, hb1⟩
  have B1 := hide (below_next B0.out hb1)
  clear f0 f1 f2 f3
  obtain ⟨⟨f0, f1, f2, f3⟩, ff⟩ := F0.out.below hb1
  obtain ⟨⟨g0, g1, g2, g3⟩, gf⟩ := G0.out.below hb1
  have ff3 := ff 3
  have gf0 := gf 0
  have gf1 := gf 1
  have gf2 := gf 2
  have gf3 := gf 3
  clear hb1 ff gf
  have BF := hide (show ∀ y0 y1 y2 y3 : Value, ∀ W : World, Below w.heap.size w W → Below w.heap.size w ((((W.setCell ⟨w.heap.size + 1, 0, none⟩ y0).setCell ⟨w.heap.size + 1, 1, none⟩ y1).setCell ⟨w.heap.size + 1, 2, none⟩ y2).setCell ⟨w.heap.size + 1, 3, none⟩ y3) from fun y0 y1 y2 y3 W hb => (((hb.setCell (p := ⟨w.heap.size + 1, 0, none⟩) (by simp) y0).setCell (p := ⟨w.heap.size + 1, 1, none⟩) (by simp) y1).setCell (p := ⟨w.heap.size + 1, 2, none⟩) (by simp) y2).setCell (p := ⟨w.heap.size + 1, 3, none⟩) (by simp) y3)
  cases hd : dirK e.kind
  · have HE := hide (HT2.out hd)
    clear hd HT HT2
    go_wp2_with fail
    refine bodyPost_ret (v := .agg #[.int .i64 e.size, .slice x e.chunks.length cc, .string (str e.path), .int .i64 e.kind]) (by simp [results, Tryz.results38, go_sem, g0, g1, g2, g3]) rfl ⟨by rw [HE.out], ?_⟩
    exact BF.out _ _ _ _ _ B1.out
  · have HE := hide (HT.out hd)
    clear hd HT HT2
    go_wp2_with fail
    refine bodyPost_ret (v := .agg #[.int .i64 e.size, .slice x e.chunks.length cc, .string (str e.path), .int .i64 2]) (by simp [results, Tryz.results38, go_sem, g0, g1, g2, g3]) rfl ⟨by rw [HE.out], ?_⟩
    exact BF.out _ _ _ _ _ (B1.out.setCell (p := ⟨w.heap.size, 3, none⟩) (Nat.le_refl _) _)
end Go.Proofs.YtjkmbicedbdifaaGreat

namespace Go.Proofs.YtjkmbicedbdifaaGreat
open Go.RowKit Go.Maps
set_option linter.unusedVariables false
attribute [local go_sem ↓] Go.wp_at_zero Go.wp_at_succ

/-- Which layer's entry is seen, of a list of layers. -/
def seenL (ls : List (List En)) (p : Bs) : Option Nat := seenG (seeL ls) p 4
theorem seen_some {S : Nat → Bs → Option En} {p : Bs} : ∀ {n k : Nat}, seenG S p n = some k → k < n ∧ ∃ e, S k p = some e ∧ e.kind ≠ 3
  | 0, k, h => by cases h
  | n + 1, k, h => by
    cases hS : S n p with
    | some e =>
      rw [seen_hit hS] at h
      by_cases hk : e.kind = 3
      · rw [if_pos hk] at h; cases h
      · rw [if_neg hk] at h
        cases h
        exact ⟨by omega, e, hS, hk⟩
    | none =>
      cases hh : (above p).any fun q => (S n q).any fun e => !decide (e.kind = 2)
      · rw [seen_down hS hh] at h
        obtain ⟨h1, h2⟩ := seen_some h
        exact ⟨by omega, h2⟩
      · rw [seen_hid hS hh] at h; cases h
def plcC (ls : List (List En)) (p : Bs) : Int := if askL ls p = 0 then (if (seenL ls p).isSome then 0 else 4) else askL ls p
def plcV (ls : List (List En)) (p : Bs) : Int := if askL ls p = 0 then (match seenL ls p with | some n => (n : Int) | none => 0) else 0
def lookL (ls : List (List En)) (p : Bs) : List En := if askL ls p = 0 then (match seenL ls p with | some n => ((seeL ls n p).map asT).toList | none => []) else []
theorem plc_bad {ls : List (List En)} {p : Bs} (h : askL ls p ≠ 0) : plcC ls p = askL ls p ∧ plcV ls p = 0 ∧ lookL ls p = [] := by simp [plcC, plcV, lookL, h]
theorem plc_none {ls : List (List En)} {p : Bs} (h : askL ls p = 0) (hn : seenL ls p = none) : plcC ls p = 4 ∧ plcV ls p = 0 ∧ lookL ls p = [] := by simp [plcC, plcV, lookL, h, hn]
theorem plc_some {ls : List (List En)} {p : Bs} {n : Nat} {e : En} (h : askL ls p = 0) (hn : seenL ls p = some n) (he : seeL ls n p = some e) : plcC ls p = 0 ∧ plcV ls p = n ∧ lookL ls p = [asT e] := by simp [plcC, plcV, lookL, h, hn, he]
theorem seeL_mem {ls : List (List En)} {n : Nat} {p : Bs} {e : En} (h : seeL ls n p = some e) : ∃ es ∈ ls, e ∈ es ∧ e.path = p := by
  unfold seeL at h
  cases hx : ls[n]? with
  | none => rw [hx] at h; cases h
  | some es =>
    rw [hx] at h
    obtain ⟨h1, h2⟩ := find_mem (show findE es p = some e from h)
    exact ⟨es, List.mem_of_getElem? hx, h1, h2⟩
theorem rights_sight {ls : List (List En)} (h : ∀ es ∈ ls, Right es) (hs : SmallL ls) : ∀ es ∈ ls, Rise es ∧ es.length ≤ 12 ∧ SmallE es := fun es he => ⟨(h es he).rise, (h es he).len, (hs es he).2⟩

set_option maxRecDepth 100000 in
set_option maxHeartbeats 3200000 in
theorem implPlaceOver_any (a : Option Addr) (c n : Nat) (ls : List (List En)) (p : Bs) (w : World) (h : RdL w a ls) (hn : n = ls.length) (hl : ls.length ≤ 1048576) (hs : SmallL ls) (hp : p.length ≤ 1048576) :
    Calls Tryz.prog 20 #[.slice a n c, .string (str p)] w fun r w' => r = .returned (.agg #[.int .i64 (plcC ls p), .int .i64 (plcV ls p)]) ∧ Below w.heap.size w w' := by
  subst hn
  have X0 := hide (Box.new w (.int .i64 0) (.int .i64 0) 49)
  have B0 := hide (below_alloc w (.cells #[.int .i64 0, .int .i64 0] 49))
  have HR := hide h
  have HSL := hide hs
  have HAs := hide (implAskL_any a c ls.length ls p _ (h.below B0.out) rfl hl hs hp)
  clear h hs
  by_cases hz : askL ls p = 0
  · obtain ⟨h4, hRs, hpf⟩ := askL_right hz
    rw [hz] at HAs
    have HRs := hide (rights_sight hRs HSL.out)
    go_enter Tryz.func20, Tryz.ntmps20
    go_wp2_with fail
    refine HAs.out.mono ?_
    rintro r w1 ⟨rfl, hb1⟩
    have B1 := hide (below_next B0.out hb1)
    have X1 := hide (X0.out.below hb1)
    clear hb1 X0 B0 HAs
    go_wp2_with fail
    refine (sightOf_any a c ls.length ls w1 (HR.out.below B1.out) rfl h4 HRs.out).mono ?_
    rintro r w2 ⟨b, N, rfl, hbb, hN, hM, hb2⟩
    have HM := hide hM
    have B2 := hide (below_next B1.out hb2)
    have X2 := hide (X1.out.below hb2)
    have HSA := hide (seenAt_any b N p (seeL ls) w1 w2 hM hp)
    clear hM hb2 X1 B1
    unfold ResW at HSA
    cases hsn : seenG (seeL ls) p 4 with
    | none =>
      have HC := hide (plc_none hz hsn)
      rw [hsn] at HSA
      clear hz hsn hRs hpf
      go_wp2_with fail
      refine HSA.out.mono ?_
      rintro r w3 ⟨⟨v, s, rfl⟩, hb3⟩
      have B3 := hide (below_next (below_next B2.out hb3) (below_alloc w3 (.cells #[.int .i64 v, .string s] 73)))
      obtain ⟨⟨t0, t1⟩, t2, t3⟩ := X2.out.below (below_next hb3 (below_alloc w3 (.cells #[.int .i64 v, .string s] 73)))
      clear hb3
      go_wp2_with fail
      exact bodyPost_ret (v := .agg #[.int .i64 4, .int .i64 0]) (by simp [results, Tryz.results20, go_sem, t0, t1]) rfl ⟨by rw [HC.out.1, HC.out.2.1], (B3.out.setCell (p := ⟨w.heap.size, 0, none⟩) (Nat.le_refl _) _).setCell (p := ⟨w.heap.size, 1, none⟩) (Nat.le_refl _) _⟩
    | some k =>
      obtain ⟨hk4, e, he, -⟩ := seen_some hsn
      have HC := hide (plc_some hz hsn he)
      rw [hsn] at HSA
      unfold spotV at HSA
      clear hz hsn hRs hpf he
      go_wp2_with fail
      refine HSA.out.mono ?_
      rintro r w3 ⟨rfl, hb3⟩
      have B3 := hide (below_next (below_next B2.out hb3) (below_alloc w3 (.cells #[.int .i64 k, .string (str p)] 73)))
      obtain ⟨⟨t0, t1⟩, t2, t3⟩ := X2.out.below (below_next hb3 (below_alloc w3 (.cells #[.int .i64 k, .string (str p)] 73)))
      clear hb3
      go_wp2_with fail
      exact bodyPost_ret (v := .agg #[.int .i64 0, .int .i64 k]) (by simp [results, Tryz.results20, go_sem, t0, t1]) rfl ⟨by rw [HC.out.1, HC.out.2.1], (B3.out.setCell (p := ⟨w.heap.size, 0, none⟩) (Nat.le_refl _) _).setCell (p := ⟨w.heap.size, 1, none⟩) (Nat.le_refl _) _⟩
  · have HC := hide (plc_bad hz)
    generalize askL ls p = F at *
    have hz2 : (F != 0) = true := by simp; exact hz
    clear hz
    go_enter Tryz.func20, Tryz.ntmps20
    go_wp2_with fail
    refine HAs.out.mono ?_
    rintro r w1 ⟨rfl, hb1⟩
    have B1 := hide (below_next B0.out hb1)
    obtain ⟨⟨t0, t1⟩, t2, t3⟩ := X0.out.below hb1
    clear hb1
    go_wp2_with fail
    exact bodyPost_ret (v := .agg #[.int .i64 F, .int .i64 0]) (by simp [results, Tryz.results20, go_sem, t0, t1]) rfl ⟨by rw [HC.out.1, HC.out.2.1], (B1.out.setCell (p := ⟨w.heap.size, 0, none⟩) (Nat.le_refl _) _).setCell (p := ⟨w.heap.size, 1, none⟩) (Nat.le_refl _) _⟩
end Go.Proofs.YtjkmbicedbdifaaGreat

namespace Go.Proofs.YtjkmbicedbdifaaGreat
set_option linter.unusedVariables false

theorem up_hid {L : List En} (h : Fit L) {q : Bs} (hq : faultP q = 0) : ((above q).any fun u => (findE L u).any fun e => !decide (e.kind = 2)) = hid L q := by
  rw [Bool.eq_iff_iff, hid_iff, List.any_eq_true]
  constructor
  · rintro ⟨u, hu, hr⟩
    cases hf : findE L u with
    | none => rw [hf] at hr; cases hr
    | some e =>
      rw [hf] at hr
      obtain ⟨he, rfl⟩ := find_mem hf
      have hb : isBelow q e.path = true := by simpa [isBelow] using hu
      rw [isBelow_good hq] at hb
      exact ⟨e, he, by simpa using hr, (of_decide_eq_true hb).2⟩
  · rintro ⟨e, he, hk, hb⟩
    refine ⟨e.path, ?_, by rw [rise_find h.rise he]; simpa using hk⟩
    have hb : isBelow q e.path = true := by rw [isBelow_good hq]; exact decide_eq_true ⟨h.path he, hb⟩
    simpa [isBelow] using hb

/-- The tree that the layers make. -/
def allE (ls : List (List En)) : List En := ls.foldl mergeE []
theorem allE_snoc (D : List (List En)) (L : List En) : allE (D ++ [L]) = mergeE (allE D) L := by simp [allE, List.foldl_append]
/-- What is seen at a path, of the n lowest layers. -/
def sawN (ls : List (List En)) (q : Bs) (n : Nat) : Option En := (seenG (seeL ls) q n).bind fun k => (seeL ls k q).map asT
theorem all_view {ls : List (List En)} (h : ∀ es ∈ ls, Fit es) : ∀ n, n ≤ ls.length → FitT (allE (ls.take n)) ∧ ∀ q, faultP q = 0 → findE (allE (ls.take n)) q = sawN ls q n
  | 0, _ => ⟨by simpa [allE] using fitT_nil, fun q _ => by simp [allE, sawN, seenG, findE]⟩
  | n + 1, hn => by
    obtain ⟨ih1, ih2⟩ := all_view h n (by omega)
    have hL : ls[n]? = some (ls[n]'(by omega)) := List.getElem?_eq_getElem (by omega)
    have hm := List.mem_of_getElem? hL
    generalize ls[n]'(by omega) = L at *
    have ht : ls.take (n + 1) = ls.take n ++ [L] := by rw [List.take_add_one, hL]; rfl
    rw [ht, allE_snoc]
    have hF := h L hm
    refine ⟨merge_fit ih1 hF, fun q hq => ?_⟩
    rw [merge_find ih1 hF]
    have hS : ∀ u, seeL ls n u = findE L u := fun u => by simp [seeL, hL]
    unfold sawN
    cases hf : findE L q with
    | some e =>
      rw [seeT_some hf, seen_hit (by rw [hS]; exact hf)]
      by_cases h3 : e.kind = 3
      · simp [h3]
      · simp [h3, hS, hf]
    | none =>
      rw [seeT_none hf]
      have hu := up_hid hF hq
      cases hh : hid L q
      · rw [seen_down (by rw [hS]; exact hf) (by simp only [hS]; rw [hu, hh]), if_neg (by simp), ih2 q hq]
        rfl
      · rw [seen_hid (by rw [hS]; exact hf) (by simp only [hS]; rw [hu, hh])]
        simp
theorem seen_over {ls : List (List En)} {q : Bs} : ∀ {n : Nat}, ls.length ≤ n → seenG (seeL ls) q n = seenG (seeL ls) q ls.length
  | 0, h => by rw [Nat.le_zero.1 h]
  | n + 1, h => by
    by_cases h1 : ls.length = n + 1
    · rw [h1]
    · have hS : ∀ u, seeL ls n u = none := fun u => by
        have : ls[n]? = none := List.getElem?_eq_none (by omega)
        simp [seeL, this]
      rw [seen_down (hS q) (by rw [List.any_eq_false]; intro u _; rw [hS u]; simp)]
      exact seen_over (by omega)
/-- What is seen at a path. -/
def sawE (ls : List (List En)) (q : Bs) : Option En := (seenL ls q).bind fun k => (seeL ls k q).map asT
theorem all_fit {ls : List (List En)} (h : ∀ es ∈ ls, Fit es) : FitT (allE ls) := by
  have := (all_view h ls.length (Nat.le_refl _)).1
  rwa [List.take_length] at this
theorem all_find {ls : List (List En)} (h : ∀ es ∈ ls, Fit es) (h4 : ls.length ≤ 4) {q : Bs} (hq : faultP q = 0) : findE (allE ls) q = sawE ls q := by
  have := (all_view h ls.length (Nat.le_refl _)).2 q hq
  rw [List.take_length] at this
  rw [this]
  unfold sawN sawE seenL
  rw [seen_over h4]
theorem rights_fit {ls : List (List En)} (h : ∀ es ∈ ls, Right es) : ∀ es ∈ ls, Fit es := fun es he => (right_fit.1 (h es he)).1
theorem look_all {ls : List (List En)} {p : Bs} (h : askL ls p = 0) : plcC ls p = (if (findE (allE ls) p).isSome then 0 else 4) ∧ lookL ls p = (findE (allE ls) p).toList := by
  obtain ⟨h4, hR, hp⟩ := askL_right h
  rw [all_find (rights_fit hR) h4 hp]
  cases hs : seenL ls p with
  | none =>
    obtain ⟨h1, -, h2⟩ := plc_none h hs
    rw [h1, h2]; simp [sawE, hs]
  | some k =>
    obtain ⟨-, e, he, -⟩ := seen_some (show seenG (seeL ls) p 4 = some k from hs)
    obtain ⟨h1, -, h2⟩ := plc_some h hs he
    rw [h1, h2]; simp [sawE, hs, he]
/-- A list of entries, rising, that has just what is seen, is the tree. -/
theorem all_rise {ls : List (List En)} {rs : List En} (h : ∀ es ∈ ls, Right es) (h4 : ls.length ≤ 4) (hr : Rise rs) (hm : ∀ e, e ∈ rs ↔ ∃ k, seenL ls e.path = some k ∧ seeL ls k e.path = some e) : rs.map asT = allE ls := by
  have hF := rights_fit h
  have hr2 : Rise (rs.map asT) := by
    unfold Rise at hr ⊢
    rw [List.pairwise_map]
    exact hr.imp (fun {a b} hab => by rw [asT_path, asT_path]; exact hab)
  have hfa := all_fit hF
  have hpath : ∀ e ∈ rs, faultP e.path = 0 := fun e he => by
    obtain ⟨k, -, h2⟩ := (hm e).1 he
    obtain ⟨es, hes, hee, -⟩ := seeL_mem h2
    exact (hF es hes).path hee
  refine rise_ext hr2 hfa.fit.rise (fun q => ?_)
  by_cases hq : faultP q = 0
  · rw [all_find hF h4 hq]
    unfold sawE
    cases hs : seenL ls q with
    | none =>
      refine find_none (fun x hx => ?_)
      obtain ⟨e, he, rfl⟩ := List.mem_map.1 hx
      obtain ⟨k, h1, -⟩ := (hm e).1 he
      rw [asT_path]
      intro e1
      rw [e1, hs] at h1; cases h1
    | some k =>
      obtain ⟨-, e, he, -⟩ := seen_some (show seenG (seeL ls) q 4 = some k from hs)
      obtain ⟨-, -, -, hpe⟩ := seeL_mem he
      have hmem : e ∈ rs := (hm e).2 ⟨k, by rw [hpe]; exact hs, by rw [hpe]; exact he⟩
      have h1 := rise_find hr2 (List.mem_map.2 ⟨e, hmem, rfl⟩)
      rw [asT_path, hpe] at h1
      rw [h1]; simp [he]
  · rw [find_none, find_none]
    · intro x hx e1; rw [← e1] at hq; exact hq (hfa.fit.path hx)
    · intro x hx e1
      obtain ⟨e, he, rfl⟩ := List.mem_map.1 hx
      rw [asT_path] at e1
      rw [← e1] at hq; exact hq (hpath e he)
theorem all_paths {ls : List (List En)} {rs : List En} (h : rs.map asT = allE ls) : rs.map En.path = (allE ls).map En.path := by
  rw [← h, List.map_map]
  exact List.map_congr_left fun e _ => (asT_path e).symm
end Go.Proofs.YtjkmbicedbdifaaGreat

namespace Go.Proofs.YtjkmbicedbdifaaGreat
open Go.RowKit Go.Maps
set_option linter.unusedVariables false
attribute [local go_sem ↓] Go.wp_at_zero Go.wp_at_succ

set_option maxRecDepth 100000 in
set_option maxHeartbeats 1600000 in
theorem hasI_any (a : Option Addr) (c n : Nat) (es : List En) (fn : FuncId) (cap : Array Value) (f : En → Bool) (w : World) (h : RdI w a es) (hn : n = es.length) (hl : es.length ≤ 1048576) (hs : SmallE es) (hf : Asks w fn cap f) :
    Calls Tryz.prog 102 #[.slice a n c, .func (.func fn) #[] cap] w fun r w' => r = .returned (.bool (es.any f)) ∧ Below w.heap.size w w' := by
  subst hn
  have HC := hide (first_any a c es.length es fn cap f w h rfl hl hs hf)
  clear h hf hs
  go_enter Tryz.func102, Tryz.ntmps102
  go_wp2_with fail
  refine HC.out.mono ?_
  rintro r w1 ⟨(⟨e, x, cc, hq, rfl, -⟩ | ⟨hq, rfl⟩), hb1⟩
  · have HA := hide (show es.any f = true from List.any_eq_true.2 ⟨e, List.mem_of_find?_eq_some hq, List.find?_some hq⟩)
    have B1 := hide hb1
    clear hb1 hq
    go_wp2_with fail
    go_ret
    exact ⟨ret_bool HA.out.symm, below_next B1.out (below_alloc _ _)⟩
  · have HA := hide (show es.any f = false from List.any_eq_false.2 (fun x hx => List.find?_eq_none.1 hq x hx))
    have B1 := hide hb1
    clear hb1 hq
    go_wp2_with fail
    go_ret
    exact ⟨ret_bool HA.out.symm, below_next B1.out (below_alloc _ _)⟩

theorem filter_in {es : List En} {f : En → Bool} {k : Nat} {e : En} (he : es[k]? = some e) (h : f e = true) : (es.take (k + 1)).filter f = (es.take k).filter f ++ [e] := by
  rw [take_snoc_at he, List.filter_append]; simp [h]
theorem filter_out {es : List En} {f : En → Bool} {k : Nat} {e : En} (he : es[k]? = some e) (h : f e = false) : (es.take (k + 1)).filter f = (es.take k).filter f := by
  rw [take_snoc_at he, List.filter_append]; simp [h]

set_option maxRecDepth 100000 in
set_option maxHeartbeats 3200000 in
theorem those_any (a : Option Addr) (c n : Nat) (es : List En) (fn : FuncId) (cap : Array Value) (f : En → Bool) (w : World) (h : RdI w a es) (hn : n = es.length) (hl : es.length ≤ 1048576) (hs : SmallE es) (hf : Asks w fn cap f) :
    Calls Tryz.prog 49 #[.slice a n c, .func (.func fn) #[] cap] w fun r w' => ∃ av cv, r = .returned (.slice av (es.filter f).length cv) ∧ LI w w' (.slice av (es.filter f).length cv) (es.filter f) ∧ Below w.heap.size w w' := by
  subst hn
  obtain ⟨i1, ki, kz0, kz1, kz2⟩ := info_parts Tryz.infoIt
  have eg := hf.1
  have HF := hide hf
  have HR := hide h
  have HS := hide hs
  clear h hf hs
  go_enter Tryz.func49, Tryz.ntmps49
  go_wp2_with fail
  go_loopw [5, 10] (fun v i wr => ∃ k : Nat, k ≤ es.length ∧ i = .int .i64 k ∧ Hid (LI w wr v ((es.take k).filter f)) ∧ Hid (Below w.heap.size w wr)) (fun _ i _ => es.length - (intOf i).toNat)
  case atStart => exact ⟨0, Nat.zero_le _, rfl, hide (LI.nil _ _), hide (Below.refl _ _)⟩
  case round =>
    obtain ⟨k, hk, rfl, HL, HW⟩ := hrel
    have hsz := HW.out.size
    obtain ⟨lv, lc, hv⟩ := HL.out.shape
    subst hv
    have hrl := List.length_filter_le f (es.take k)
    rw [List.length_take] at hrl
    by_cases hlt : k < es.length
    · obtain ⟨b, off, e, x, cc, rfl, hb, he, c0, c1, c2, c3, hr⟩ := (HR.out.below HW.out).at hlt
      obtain ⟨b', off', e', x', cc', hbb, hb', he', d0, d1, d2, d3, hr'⟩ := HR.out.at hlt
      simp only [Option.some.injEq, Addr.mk.injEq, and_true] at hbb
      obtain ⟨rfl, rfl⟩ := hbb
      have : e' = e := Option.some.inj (he'.symm.trans he)
      subst this
      have d1' := (HW.out.cell (p := ⟨b, off + k * 4 + 1, none⟩) hb').trans d1
      rw [c1] at d1'
      simp only [Option.some.injEq, Value.slice.injEq, true_and] at d1'
      obtain ⟨rfl, rfl⟩ := d1'
      have hsm := HS.out e' (List.mem_of_getElem? he)
      have HX := hide he
      have HRc := hide hr'
      clear he hr hr' he' d0 d1 d2 d3
      have BA := hide (below_alloc wr (.cells #[.int .i64 e'.size, .slice x e'.chunks.length cc, .string (str e'.path), .int .i64 e'.kind] 64))
      have F4 := hide (Four.new wr (.int .i64 e'.size) (.slice x e'.chunks.length cc) (.string (str e'.path)) (.int .i64 e'.kind) 64)
      go_wp2_with fail
      refine (HF.out.2 e' x cc _ hsm.1 hsm.2 (HRc.out.below (below_next HW.out BA.out)) (below_next HW.out BA.out)).mono ?_
      rintro r w3 ⟨rfl, hb3⟩
      have BB5 := hide (below_next BA.out hb3)
      obtain ⟨f0, f1, f2, f3⟩ := F4.out.below hb3
      clear hb3 c0 c1 c2 c3
      cases hq : f e'
      · have HN := hide (filter_out HX.out hq)
        clear hq
        go_wp2_with fail
        go_roundw
        case rel => exact ⟨k + 1, by omega, by go_num, hide (by rw [HN.out]; exact HL.out.below BB5.out), hide (below_next HW.out BB5.out)⟩
        case measure => simp [intOf]; omega
      · have HN := hide (filter_in HX.out hq)
        clear hq
        obtain ⟨rs, g1, g2, g3⟩ := HL.out
        have G1 := hide g1
        have G2 := hide (ownsRow_below g2 BB5.out)
        have G3 := hide g3
        clear g1 g2 g3
        obtain ⟨L, hL⟩ : ∃ L, L = ((es.take k).filter f).length := ⟨_, rfl⟩
        rw [← hL] at hrl G2 ⊢
        have HLn := hide hL
        clear hL
        have hm1 : L + 1 ≤ maxLen := by unfold maxLen; omega
        have hm1' : (L + 1) * 56 ≤ 140737488355328 := by omega
        have hsz5 := BB5.out.size
        go_wp2_with (at_builtin; refine wpList_append_put rfl (.tmp 17) (.tmp 19) 55 rfl w.heap.size 64 i1 (.agg #[.int .i64 0, .slice none 0 0, .string ⟨#[]⟩, .int .i64 0]) 4 56 Tryz.underlying55 ki kz0 kz1 kz2 rfl (by decide) _ _ _ rfl G2.out _ rfl rfl rfl (by intro u hu; simp at hu; rcases hu with rfl | rfl | rfl | rfl <;> rfl) hm1 hm1' (by omega) ?_; intro av6 cv6 w6 hown6 hk6; have O6 := hide hown6; have K6 := hide hk6; clear hown6 hk6)
        go_roundw
        case rel =>
          refine ⟨k + 1, by omega, by go_num, hide ?_, hide ?_⟩
          · rw [HN.out]
            exact LI.push (e := e') (a := x) (c := cc) G1.out HLn.out G3.out HRc.out O6.out
          · exact (below_next HW.out BB5.out).trans (K6.out.below (by omega) (fun q hq hS => by have := (G2.out.lt q hS).1; omega))
        case measure => simp [intOf]; omega
    · have HE := hide (show es.take k = es from List.take_of_length_le (by omega))
      rw [HE.out] at HL ⊢
      clear HE
      go_wp2_with fail
      go_ret
      exact ⟨lv, lc, rfl, HL.out, HW.out⟩

set_option maxRecDepth 100000 in
set_option maxHeartbeats 800000 in
theorem isAtLit_any (p : Bs) (b : Nat) (e : En) (a : Option Addr) (c : Nat) (w : World) (h : w.cell? ⟨b, 0, none⟩ = some (.string (str p))) :
    Calls Tryz.prog 80 #[.agg #[.int .i64 e.size, .slice a e.chunks.length c, .string (str e.path), .int .i64 e.kind], .pointer (some ⟨b, 0, none⟩)] w fun r w' => r = .returned (.bool (decide (e.path = p))) ∧ Below w.heap.size w w' := by
  have hb := World.block_lt_of_cell? w ⟨b, 0, none⟩ h
  have hs := str_beq e.path p
  generalize decide (e.path = p) = Z at *
  have hbw : (w.alloc (.cells #[.int .i64 e.size, .slice a e.chunks.length c, .string (str e.path), .int .i64 e.kind] 64)).cell? ⟨b, 0, none⟩ = some (.string (str p)) := ((below_alloc w _).cell (p := ⟨b, 0, none⟩) hb).trans h
  go_enter Tryz.func80, Tryz.ntmps80
  go_wp2_with fail
  go_ret
  exact ⟨rfl, below_alloc _ _⟩
theorem isAt_any (p : Bs) (w : World) :
    Calls Tryz.prog 46 #[.string (str p)] w fun r w' => r = .returned (.func (.func 80) #[] #[.pointer (some ⟨w.heap.size, 0, none⟩)]) ∧ Below w.heap.size w w' ∧ Asks w' 80 #[.pointer (some ⟨w.heap.size, 0, none⟩)] (fun e => decide (e.path = p)) := by
  have hmf : ∀ (fn : Fn) (first cap : Array Value) (w : World), (Instr.makeFunc fn first cap).run Tryz.prog w = .ok (.func fn first cap) w := fun _ _ _ _ => rfl
  go_enter Tryz.func46, Tryz.ntmps46
  go_wp2_with fail
  go_ret
  refine ⟨rfl, below_alloc _ _, enters_of Tryz.func80 (by kernel_rfl) rfl, fun e a c w' he _ _ hb => ?_⟩
  exact isAtLit_any p w.heap.size e a c w' ((hb.cell (p := ⟨w.heap.size, 0, none⟩) (by simp)).trans (by simp))

/-- Is it right in the directory of p? -/
def inP (p : Bs) (e : En) : Bool := if parC e.path = 4 then decide (p = [47]) else decide (parT e.path = p)
set_option maxRecDepth 100000 in
set_option maxHeartbeats 800000 in
theorem isInLit_any (p : Bs) (b : Nat) (e : En) (a : Option Addr) (c : Nat) (w : World) (h : w.cell? ⟨b, 0, none⟩ = some (.string (str p))) (hl : e.path.length ≤ 1048576) :
    Calls Tryz.prog 83 #[.agg #[.int .i64 e.size, .slice a e.chunks.length c, .string (str e.path), .int .i64 e.kind], .pointer (some ⟨b, 0, none⟩)] w fun r w' => r = .returned (.bool (inP p e)) ∧ Below w.heap.size w w' := by
  have HB0 := hide (below_alloc w (.cells #[.int .i64 e.size, .slice a e.chunks.length c, .string (str e.path), .int .i64 e.kind] 64))
  have hb := World.block_lt_of_cell? w ⟨b, 0, none⟩ h
  have KC : Hid (∀ w' : World, Below w.heap.size w w' → w'.cell? ⟨b, 0, none⟩ = some (.string (str p))) := hide (fun w' hb' => (hb'.cell (p := ⟨b, 0, none⟩) hb).trans h)
  have HPC := hide (fun (u : World) => implParentOf_any (str e.path) u (by rw [str_size]; omega))
  rw [str_data] at HPC
  have hs1 : ((str p).toList == [47]) = decide (p = [47]) := by rw [str_toList]; by_cases h47 : p = [47] <;> simp [h47]
  have hs2 := str_beq (parT e.path) p
  have HI := hide (show inP p e = if parC e.path = 4 then decide (p = [47]) else decide (parT e.path = p) from rfl)
  generalize inP p e = Z at *
  generalize decide (p = [47]) = Z1 at *
  generalize decide (parT e.path = p) = Z2 at *
  generalize parT e.path = PT at *
  generalize parC e.path = PC at *
  clear h
  go_enter Tryz.func83, Tryz.ntmps83
  go_wp2_with fail
  refine (HPC.out _).mono ?_
  rintro r w1 ⟨rfl, hb1⟩
  have B1 := hide (below_next HB0.out hb1)
  have B2 := hide (below_next B1.out (below_alloc w1 (.cells #[.int .i64 PC, .string (str PT)] 89)))
  have hc := KC.out _ B2.out
  clear hb1
  by_cases h4 : PC = 4
  · have hb4 : (PC == 4) = true := by simp [h4]
    have HZ := hide (show Z = Z1 from by rw [HI.out, if_pos h4])
    clear h4
    go_wp2_with fail
    go_ret
    exact ⟨ret_bool HZ.out.symm, B2.out⟩
  · have hb4 : (PC == 4) = false := by simp [h4]
    have HZ := hide (show Z = Z2 from by rw [HI.out, if_neg h4])
    clear h4
    go_wp2_with fail
    go_ret
    exact ⟨ret_bool HZ.out.symm, B2.out⟩
theorem isIn_any (p : Bs) (w : World) :
    Calls Tryz.prog 50 #[.string (str p)] w fun r w' => r = .returned (.func (.func 83) #[] #[.pointer (some ⟨w.heap.size, 0, none⟩)]) ∧ Below w.heap.size w w' ∧ Asks w' 83 #[.pointer (some ⟨w.heap.size, 0, none⟩)] (inP p) := by
  have hmf : ∀ (fn : Fn) (first cap : Array Value) (w : World), (Instr.makeFunc fn first cap).run Tryz.prog w = .ok (.func fn first cap) w := fun _ _ _ _ => rfl
  go_enter Tryz.func50, Tryz.ntmps50
  go_wp2_with fail
  go_ret
  refine ⟨rfl, below_alloc _ _, enters_of Tryz.func83 (by kernel_rfl) rfl, fun e a c w' he _ _ hb => ?_⟩
  exact isInLit_any p w.heap.size e a c w' ((hb.cell (p := ⟨w.heap.size, 0, none⟩) (by simp)).trans (by simp)) he

set_option maxHeartbeats 800000 in
theorem isOfTree_any (p : ByteArray) (k z : Int) (a : Option Addr) (n c : Nat) (w : World) :
    Calls Tryz.prog 104 #[.agg #[.int .i64 z, .slice a n c, .string p, .int .i64 k]] w fun r w' => r = .returned (.bool (treeK k)) ∧ Below w.heap.size w w' := by
  by_cases h0 : k = 1
  · have e : treeK k = true := decide_eq_true (.inl h0)
    have hb : (k == 1) = true := by simp [h0]
    rw [e]
    clear e h0
    go_enter Tryz.func104, Tryz.ntmps104
    go_wp2
    go_ret
    exact ⟨rfl, below_alloc _ _⟩
  · have hb : (k == 1) = false := by simp [h0]
    by_cases h1 : k = 2
    · have e : treeK k = true := decide_eq_true (.inr h1)
      have hb1 : (k == 2) = true := by simp [h1]
      rw [e]
      clear e h0 h1
      go_enter Tryz.func104, Tryz.ntmps104
      go_wp2
      go_ret
      exact ⟨rfl, below_alloc _ _⟩
    · have e : treeK k = false := decide_eq_false (fun h => h.elim h0 h1)
      have hb1 : (k == 2) = false := by simp [h1]
      rw [e]
      clear e h0 h1
      go_enter Tryz.func104, Tryz.ntmps104
      go_wp2
      go_ret
      exact ⟨rfl, below_alloc _ _⟩

set_option maxRecDepth 100000 in
set_option maxHeartbeats 800000 in
theorem noTree_any (e : En) (a : Option Addr) (c : Nat) (w : World) :
    Calls Tryz.prog 103 #[.agg #[.int .i64 e.size, .slice a e.chunks.length c, .string (str e.path), .int .i64 e.kind]] w fun r w' => r = .returned (.bool (!treeK e.kind)) ∧ Below w.heap.size w w' := by
  have HC := hide (fun (u : World) => isOfTree_any (str e.path) e.kind e.size a e.chunks.length c u)
  generalize treeK e.kind = Z at *
  go_enter Tryz.func103, Tryz.ntmps103
  go_wp2_with fail
  refine (HC.out _).mono ?_
  rintro r w1 ⟨rfl, hb1⟩
  have B1 := hide (below_next (below_alloc w (.cells #[.int .i64 e.size, .slice a e.chunks.length c, .string (str e.path), .int .i64 e.kind] 64)) hb1)
  clear hb1
  go_wp2_with fail
  go_ret
  exact ⟨rfl, B1.out⟩
theorem noTree_asks (w : World) : Asks w 103 #[] (fun e => !treeK e.kind) :=
  ⟨enters_of Tryz.func103 (by kernel_rfl) rfl, fun e a c w' _ _ _ _ => noTree_any e a c w'⟩

set_option maxRecDepth 100000 in
set_option maxHeartbeats 800000 in
theorem withoutLit_any (b : Nat) (fn : FuncId) (cap : Array Value) (f : En → Bool) (W0 : World) (hf : Asks W0 fn cap f) (e : En) (a : Option Addr) (c : Nat) (w : World) (he : e.path.length ≤ 1048576) (hec : e.chunks.length ≤ 1048576) (hre : Reads .i64 w a e.chunks) (hw : Below W0.heap.size W0 w) (h : w.cell? ⟨b, 0, none⟩ = some (.func (.func fn) #[] cap)) :
    Calls Tryz.prog 135 #[.agg #[.int .i64 e.size, .slice a e.chunks.length c, .string (str e.path), .int .i64 e.kind], .pointer (some ⟨b, 0, none⟩)] w fun r w' => r = .returned (.bool (!f e)) ∧ Below w.heap.size w w' := by
  have eg := hf.1
  have B0 := hide (below_alloc w (.cells #[.int .i64 e.size, .slice a e.chunks.length c, .string (str e.path), .int .i64 e.kind] 64))
  have hb := World.block_lt_of_cell? w ⟨b, 0, none⟩ h
  have hc := (B0.out.cell (p := ⟨b, 0, none⟩) hb).trans h
  have HF := hide (hf.2 e a c _ he hec (hre.below B0.out) (below_next hw B0.out))
  generalize f e = Z at *
  clear h hf hre
  go_enter Tryz.func135, Tryz.ntmps135
  go_wp2_with fail
  refine HF.out.mono ?_
  rintro r w1 ⟨rfl, hb1⟩
  have B1 := hide (below_next B0.out hb1)
  clear hb1
  go_wp2_with fail
  go_ret
  exact ⟨rfl, B1.out⟩
set_option maxRecDepth 100000 in
set_option maxHeartbeats 800000 in
theorem without_any (a : Option Addr) (c n : Nat) (es : List En) (fn : FuncId) (cap : Array Value) (f : En → Bool) (w : World) (h : RdI w a es) (hn : n = es.length) (hl : es.length ≤ 1048576) (hs : SmallE es) (hf : Asks w fn cap f) :
    Calls Tryz.prog 105 #[.slice a n c, .func (.func fn) #[] cap] w fun r w' => ∃ av cv w1, r = .returned (.slice av (es.filter fun e => !f e).length cv) ∧ LI w1 w' (.slice av (es.filter fun e => !f e).length cv) (es.filter fun e => !f e) ∧ Below w.heap.size w w1 ∧ Below w1.heap.size w1 w' := by
  have hmf : ∀ (fn : Fn) (first cap : Array Value) (w : World), (Instr.makeFunc fn first cap).run Tryz.prog w = .ok (.func fn first cap) w := fun _ _ _ _ => rfl
  subst hn
  have B0 := hide (below_alloc w (.cells #[.func (.func fn) #[] cap] 80))
  have HA : Hid (Asks (w.alloc (.cells #[.func (.func fn) #[] cap] 80)) 135 #[.pointer (some ⟨w.heap.size, 0, none⟩)] (fun e => !f e)) := hide ⟨enters_of Tryz.func135 (by kernel_rfl) rfl, fun e a c w' he hec hre hb =>
    withoutLit_any w.heap.size fn cap f w hf e a c w' he hec hre (below_next B0.out hb) ((hb.cell (p := ⟨w.heap.size, 0, none⟩) (by simp)).trans (by simp))⟩
  have HC := hide (those_any a c es.length es _ _ (fun e => !f e) _ (h.below B0.out) rfl hl hs HA.out)
  clear h hf hs HA
  go_enter Tryz.func105, Tryz.ntmps105
  go_wp2_with fail
  generalize w.alloc (.cells #[.func (.func fn) #[] cap] 80) = W0 at *
  refine HC.out.mono ?_
  rintro r w1 ⟨av, cv, rfl, hL, hb1⟩
  have HL := hide hL
  have B1 := hide hb1
  clear hL hb1 HC
  go_wp2_with fail
  go_ret
  exact ⟨av, cv, W0, rfl, HL.out, B0.out, B1.out⟩
end Go.Proofs.YtjkmbicedbdifaaGreat

namespace Go.Proofs.YtjkmbicedbdifaaGreat
open Go.RowKit Go.Maps
set_option linter.unusedVariables false
attribute [local go_sem ↓] Go.wp_at_zero Go.wp_at_succ

theorem treFault_many {es : List En} (h : 40 < es.length) : treFault es = 2 := by simp [treFault, h]
theorem treFault_few {es : List En} (h : ¬ 40 < es.length) : es.all (fun e => treeK e.kind) = true → treFault es = layFrom es (prevE es 0) (es.drop 0) := by intro hk; simp [treFault, h, hk, prevE]
theorem treFault_kind {es : List En} (h : ¬ 40 < es.length) : es.all (fun e => treeK e.kind) = false → treFault es = 1 := by intro hk; simp [treFault, h, hk]


theorem homeC_at_none {es : List En} {p : Bs} (h : parentP p ≠ []) (ha : atE es (parentP p) = none) : homeC es p = 4 := homeC_none h (by rw [atE_find, ha]; rfl)
theorem find_at {es : List En} {q : Bs} {k : Nat} {e : En} (ha : atE es q = some k) (he : es[k]? = some e) : findE es q = some e := by rw [atE_find, ha]; exact he
end Go.Proofs.YtjkmbicedbdifaaGreat

namespace Go.Proofs.YtjkmbicedbdifaaGreat
open Go.RowKit Go.Maps
set_option linter.unusedVariables false

/-- A block of three cells that may be written. -/
def Box3 (w : World) (b : Nat) (u0 u1 u2 : Value) : Prop := (w.cell? ⟨b, 0, none⟩ = some u0 ∧ w.cell? ⟨b, 1, none⟩ = some u1 ∧ w.cell? ⟨b, 2, none⟩ = some u2) ∧ w.frozen? ⟨b, 0, none⟩ = false ∧ w.frozen? ⟨b, 1, none⟩ = false ∧ w.frozen? ⟨b, 2, none⟩ = false
theorem Box3.new (w : World) (u0 u1 u2 : Value) (t : TypeId) : Box3 (w.alloc (.cells #[u0, u1, u2] t)) w.heap.size u0 u1 u2 := ⟨⟨by simp, by simp, by simp⟩, by simp, by simp, by simp⟩
theorem Box3.lt {w : World} {b : Nat} {u0 u1 u2 : Value} (h : Box3 w b u0 u1 u2) : b < w.heap.size := World.block_lt_of_cell? w ⟨b, 0, none⟩ h.1.1
theorem Box3.kept {S : Nat → Prop} {w w' : World} {b : Nat} {u0 u1 u2 : Value} (h : Box3 w b u0 u1 u2) (hk : Kept S w w') (hn : ¬ S b) : Box3 w' b u0 u1 u2 :=
  ⟨⟨(hk.cell (p := ⟨b, 0, none⟩) h.lt hn).trans h.1.1, (hk.cell (p := ⟨b, 1, none⟩) h.lt hn).trans h.1.2.1, (hk.cell (p := ⟨b, 2, none⟩) h.lt hn).trans h.1.2.2⟩, (hk.frozen (p := ⟨b, 0, none⟩) h.lt hn).trans h.2.1, (hk.frozen (p := ⟨b, 1, none⟩) h.lt hn).trans h.2.2.1, (hk.frozen (p := ⟨b, 2, none⟩) h.lt hn).trans h.2.2.2⟩
theorem Box3.below {w w' : World} {b : Nat} {u0 u1 u2 : Value} (h : Box3 w b u0 u1 u2) (hk : Below w.heap.size w w') : Box3 w' b u0 u1 u2 := h.kept (S := fun _ => False) (Kept.of_below hk) id
theorem Kept.three (w : World) (b : Nat) (u0 u1 u2 : Value) : Kept (fun x => x = b) w (((w.setCell ⟨b, 0, none⟩ u0).setCell ⟨b, 1, none⟩ u1).setCell ⟨b, 2, none⟩ u2) :=
  Kept.setCell (S := fun x => x = b) (p := ⟨b, 2, none⟩) (Kept.two w b 0 1 u0 u1) (fun _ => rfl) u2
/-- A result: a code, a reply and a tree of its own. -/
def ResT (q rep : Int) (es : List En) (w : World) (r : Ending) (w' : World) : Prop :=
  ∃ av cv, r = .returned (.agg #[.int .i64 q, .int .i64 rep, .slice av es.length cv]) ∧ GE w.heap.size w'.heap.size w' (.slice av es.length cv) es ∧ Below w.heap.size w w'
theorem ResT.of {q rep : Int} {es : List En} {w w3 : World} {B b n : Nat} {av : Option Addr} {cv : Nat} {u0 u1 u2 : Value} (hB : b < B) (hw : w.heap.size ≤ b) (hn : n = es.length) (hG : GE B w3.heap.size w3 (.slice av n cv) es) (hb : Below w.heap.size w w3) :
    ResT q rep es w (.returned (.agg #[.int .i64 q, .int .i64 rep, .slice av n cv])) (((w3.setCell ⟨b, 0, none⟩ u0).setCell ⟨b, 1, none⟩ u1).setCell ⟨b, 2, none⟩ u2) := by
  subst hn
  refine ⟨av, cv, rfl, ?_, ((hb.setCell hw _).setCell hw _).setCell hw _⟩
  have hs : (((w3.setCell ⟨b, 0, none⟩ u0).setCell ⟨b, 1, none⟩ u1).setCell ⟨b, 2, none⟩ u2).heap.size = w3.heap.size := by simp [World.setCell]
  rw [hs]
  exact (hG.kept (Kept.three w3 b u0 u1 u2) (fun x h1 _ h2 => by omega)).mono (by omega)
theorem ResT.bad {q rep : Int} {w w3 : World} {b : Nat} {u0 u1 u2 : Value} (hw : w.heap.size ≤ b) (hb : Below w.heap.size w w3) :
    ResT q rep [] w (.returned (.agg #[.int .i64 q, .int .i64 rep, .slice none 0 0])) (((w3.setCell ⟨b, 0, none⟩ u0).setCell ⟨b, 1, none⟩ u1).setCell ⟨b, 2, none⟩ u2) :=
  ⟨none, 0, rfl, GE.nil _ _ _, ((hb.setCell hw _).setCell hw _).setCell hw _⟩
/-- A result: a code and names of its own. -/
def ResN (q : Int) (ns : List Bs) (w : World) (r : Ending) (w' : World) : Prop :=
  ∃ av cv, r = .returned (.agg #[.int .i64 q, .slice av ns.length cv]) ∧ OwnS w.heap.size w' (.slice av ns.length cv) ns ∧ Below w.heap.size w w'
theorem ResN.of {q : Int} {ns : List Bs} {w w3 : World} {B b n : Nat} {av : Option Addr} {cv : Nat} {u v : Value} (hB : b < B) (hw : w.heap.size ≤ b) (hn : n = ns.length) (hG : OwnS B w3 (.slice av n cv) ns) (hb : Below w.heap.size w w3) :
    ResN q ns w (.returned (.agg #[.int .i64 q, .slice av n cv])) ((w3.setCell ⟨b, 0, none⟩ u).setCell ⟨b, 1, none⟩ v) := by
  subst hn
  exact ⟨av, cv, rfl, (hG.kept (Kept.two w3 b 0 1 u v) (fun x h1 h2 => by have := (hG.lt x h1).1; omega)).mono (by omega), (hb.setCell hw _).setCell hw _⟩
theorem ResN.bad {q : Int} {w w3 : World} {b : Nat} {u v : Value} (hw : w.heap.size ≤ b) (hb : Below w.heap.size w w3) :
    ResN q [] w (.returned (.agg #[.int .i64 q, .slice none 0 0])) ((w3.setCell ⟨b, 0, none⟩ u).setCell ⟨b, 1, none⟩ v) :=
  ⟨none, 0, rfl, OwnS.nil _ _, (hb.setCell hw _).setCell hw _⟩
end Go.Proofs.YtjkmbicedbdifaaGreat

namespace Go.Proofs.YtjkmbicedbdifaaGreat
open Go.RowKit Go.Maps
set_option linter.unusedVariables false

theorem has_upto {ms : List Int} {z : Int} (h : ∀ j, j < ms.length → ms.getD j 0 ≠ z) : ms.contains z = false := by
  simp only [List.contains_eq_mem, decide_eq_false_iff_not]
  intro hm
  obtain ⟨j, hj, e⟩ := List.mem_iff_getElem.1 hm
  exact h j hj (by simp [List.getD_eq_getElem?_getD, hj, e])
theorem has_hit {ms : List Int} {z : Int} {j : Nat} (hj : j < ms.length) (h : ms.getD j 0 = z) : ms.contains z = true := by
  simp only [List.contains_eq_mem, decide_eq_true_eq]
  have : ms.getD j 0 = ms[j] := by simp [List.getD_eq_getElem?_getD, hj]
  rw [← h, this]
  exact List.getElem_mem hj


/-- Numbers, each but once, in the order of their first place. -/
def addZ (acc : List Int) (z : Int) : List Int := if acc.contains z then acc else acc ++ [z]
def onceZ (zs : List Int) : List Int := zs.foldl addZ []
def allCh (es : List En) : List Int := es.flatMap En.chunks
theorem onceZ_snoc (zs : List Int) (z : Int) : onceZ (zs ++ [z]) = addZ (onceZ zs) z := by simp [onceZ]
theorem onceZ_le (zs : List Int) : (onceZ zs).length ≤ zs.length := by
  suffices ∀ (zs acc : List Int), (zs.foldl addZ acc).length ≤ acc.length + zs.length by simpa [onceZ] using this zs []
  intro zs
  induction zs with
  | nil => intro acc; simp
  | cons z r ih =>
    intro acc
    have h1 := ih (addZ acc z)
    have h2 : (addZ acc z).length ≤ acc.length + 1 := by unfold addZ; split <;> simp
    simp only [List.foldl_cons, List.length_cons]
    omega
/-- The chunks ahead of chunk k of entry j. -/
def upTo (es : List En) (j : Nat) (e : En) (k : Nat) : List Int := allCh (es.take j) ++ e.chunks.take k
theorem upTo_succ {es : List En} {j k : Nat} {e : En} {z : Int} (h : e.chunks[k]? = some z) : upTo es j e (k + 1) = upTo es j e k ++ [z] := by
  unfold upTo; rw [take_snoc_at h, List.append_assoc]
theorem upTo_end {es : List En} {j k : Nat} {e : En} (he : es[j]? = some e) (hk : e.chunks.length ≤ k) : upTo es j e k = allCh (es.take (j + 1)) := by
  unfold upTo; rw [List.take_of_length_le hk, take_snoc_at he]; simp [allCh]
theorem upTo_zero (es : List En) (j : Nat) (e : En) : upTo es j e 0 = allCh (es.take j) := by simp [upTo]
theorem allCh_le {es : List En} (h : ∀ e ∈ es, e.chunks.length ≤ 1024) : (allCh es).length ≤ es.length * 1024 := by
  induction es with
  | nil => simp [allCh]
  | cons e r ih =>
    have h1 := ih (fun x hx => h x (List.mem_cons_of_mem _ hx))
    have h2 := h e (List.mem_cons_self ..)
    simp only [allCh, List.flatMap_cons, List.length_append, List.length_cons] at h1 ⊢
    omega


theorem layFrom_all {es : List En} : ∀ {l : List En} {prev : Option En}, layFrom es prev l = 0 → ∀ e ∈ l, entFault e = 0
  | [], _, _, e, he => by simp at he
  | x :: r, prev, h, e, he => by
    simp only [layFrom] at h
    by_cases hb : entBad es prev x = 0
    · rw [if_pos hb] at h
      have hx : entFault x = 0 := by
        by_cases hx : entFault x = 0
        · exact hx
        · unfold entBad at hb; rw [if_neg hx] at hb; exact absurd hb hx
      rcases List.mem_cons.1 he with rfl | he
      · exact hx
      · exact layFrom_all h e he
    · rw [if_neg hb] at h; exact absurd h hb
theorem entFault_chunks {e : En} (h : entFault e = 0) : e.chunks.length ≤ 3 := by
  have hp := entFault_zero h
  cases h1 : formE e
  · rw [entFault_form hp h1] at h; omega
  · cases h2 : sizeE e
    · rw [entFault_size hp h1 h2] at h; omega
    · cases h3 : manyE e
      · rw [entFault_many hp h1 h2 h3] at h; omega
      · have h2' : 0 ≤ e.size ∧ e.size ≤ 24 := by simpa [sizeE] using h2
        have h3' : (e.chunks.length : Int) = (e.size + 7) / 8 := by simpa [manyE] using h3
        omega
theorem layFault_zero {es : List En} (h : layFault es = 0) : es.length ≤ 12 ∧ ∀ e ∈ es, entFault e = 0 ∧ e.chunks.length ≤ 3 := by
  unfold layFault at h
  split at h
  · omega
  · exact ⟨by omega, fun e he => ⟨layFrom_all h e he, entFault_chunks (layFrom_all h e he)⟩⟩
/-- A result: a code and numbers of its own. -/
def ResZ (q : Int) (zs : List Int) (w : World) (r : Ending) (w' : World) : Prop :=
  ∃ av cv, r = .returned (.agg #[.int .i64 q, .slice av zs.length cv]) ∧ w'.ownsRow w.heap.size 2 1 (.slice av zs.length cv) zs.length (zs.map (Value.int .i64)) ∧ Below w.heap.size w w'
def chunksList (es : List En) : List Int := if layFault es = 0 then onceZ (allCh es) else []

end Go.Proofs.YtjkmbicedbdifaaGreat
