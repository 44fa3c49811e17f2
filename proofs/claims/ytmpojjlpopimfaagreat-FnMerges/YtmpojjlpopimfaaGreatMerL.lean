/-
  Layers laid over trees and over one another, as lists of entries: what is seen at each path; two layers that are made one do what they do one behind the other. Nothing of a program.
-/
import Derived.Test.YtmpojjlpopimfaaGreatTreL
namespace Go.Proofs.YtmpojjlpopimfaaGreat
set_option linter.unusedVariables false

/-- Entries without faults, rising, each with a home; no bound on how many. -/
structure Fit (es : List En) : Prop where
  ent : ∀ e ∈ es, entFault e = 0
  rise : Rise es
  home : ∀ e ∈ es, homeP es e.path = true
structure FitT (es : List En) : Prop where
  fit : Fit es
  kind : ∀ e ∈ es, treeK e.kind = true
theorem fit_nil : Fit [] := ⟨fun e he => by simp at he, List.Pairwise.nil, fun e he => by simp at he⟩
theorem fitT_nil : FitT [] := ⟨fit_nil, fun e he => by simp at he⟩
theorem right_fit {es : List En} : Right es ↔ Fit es ∧ es.length ≤ 12 := ⟨fun h => ⟨⟨h.ent, h.rise, h.home⟩, h.len⟩, fun h => ⟨h.2, h.1.ent, h.1.rise, h.1.home⟩⟩
theorem rightT_fit {es : List En} : RightT es ↔ FitT es ∧ es.length ≤ 40 := ⟨fun h => ⟨⟨⟨h.ent, h.rise, h.home⟩, h.kind⟩, h.len⟩, fun h => ⟨h.2, h.1.kind, h.1.fit.ent, h.1.fit.rise, h.1.fit.home⟩⟩
theorem Fit.path {es : List En} (h : Fit es) {e : En} (he : e ∈ es) : faultP e.path = 0 := entFault_zero (h.ent e he)

theorem bl_append : ∀ (p : Bs) (c : UInt8) (r : Bs), Op.bytesLess p (p ++ c :: r) = true
  | [], c, r => by simp [Op.bytesLess]
  | a :: p, c, r => by simp [Op.bytesLess, bl_append p c r]
theorem below_less {q p : Bs} (h : belowB q p = true) : Op.bytesLess p q = true := by
  obtain ⟨r, _, rfl⟩ := belowB_iff.1 h
  exact bl_append p 47 r
theorem not_below_of_less {q p : Bs} (h : Op.bytesLess q p = true) : belowB q p = false := by
  cases hb : belowB q p
  · rfl
  · have := bl_asymm (below_less hb); rw [h] at this; cases this

theorem find_filter (es : List En) (f : Bs → Bool) (q : Bs) : findE (es.filter fun e => f e.path) q = if f q then findE es q else none := by
  unfold findE
  rw [List.find?_filter]
  cases hq : f q
  · rw [if_neg (by simp), List.find?_eq_none]
    intro x hx
    by_cases e : x.path = q
    · simp [e, hq]
    · simp [e]
  · rw [if_pos rfl]
    congr 1
    funext x
    by_cases e : x.path = q
    · simp [e, hq]
    · simp [e]
theorem find_putAt {bs : List En} {e : En} (hn : ∀ x ∈ bs, x.path ≠ e.path) (q : Bs) : findE (putAt bs e) q = if q = e.path then some e else findE bs q := by
  unfold putAt
  by_cases h : q = e.path
  · rw [if_pos h, findE, List.find?_append]
    have h1 : List.find? (fun x : En => decide (x.path = q)) (bs.take (lowN bs e.path)) = none := by
      rw [List.find?_eq_none]
      intro x hx
      simpa [h] using hn x (List.mem_of_mem_take hx)
    rw [h1]
    simp [h]
  · rw [if_neg h]
    conv => rhs; rw [← List.take_append_drop (lowN bs e.path) bs]
    have h2 : decide (e.path = q) = false := by simpa using fun x : e.path = q => h x.symm
    simp only [findE, List.find?_append, List.find?_cons, h2]
theorem find_snoc {D : List En} {e : En} (hn : ∀ x ∈ D, x.path ≠ e.path) (q : Bs) : findE (D ++ [e]) q = if q = e.path then some e else findE D q := by
  by_cases h : q = e.path
  · rw [if_pos h, findE, List.find?_append]
    have h1 : List.find? (fun x : En => decide (x.path = q)) D = none := by
      rw [List.find?_eq_none]
      intro x hx
      simpa [h] using hn x hx
    rw [h1]
    simp [h]
  · rw [if_neg h]
    have h2 : decide (e.path = q) = false := by simpa using fun x : e.path = q => h x.symm
    simp only [findE, List.find?_append, List.find?_cons, h2, List.find?_nil, Option.or_none]
/-- Two rising lists of which each path tells the same are one. -/
theorem rise_ext : ∀ {es fs : List En}, Rise es → Rise fs → (∀ q, findE es q = findE fs q) → es = fs
  | [], [], _, _, _ => rfl
  | [], y :: fs, _, h2, h => by
    have := h y.path
    rw [rise_find h2 List.mem_cons_self] at this
    cases this
  | x :: es, [], h1, _, h => by
    have := h x.path
    rw [rise_find h1 List.mem_cons_self] at this
    cases this
  | x :: es, y :: fs, h1, h2, h => by
    have p1 := List.pairwise_cons.1 h1
    have p2 := List.pairwise_cons.1 h2
    have hx : x ∈ y :: fs := by
      have := h x.path
      rw [rise_find h1 List.mem_cons_self] at this
      exact (find_mem this.symm).1
    have hy : y ∈ x :: es := by
      have := h y.path
      rw [rise_find h2 List.mem_cons_self] at this
      exact (find_mem this).1
    have hxy : x = y := by
      rcases List.mem_cons.1 hx with e | hx
      · exact e
      · rcases List.mem_cons.1 hy with e | hy
        · exact e.symm
        · have a1 := p2.1 x hx
          have a2 := p1.1 y hy
          have := bl_asymm a1
          rw [a2] at this
          cases this
    subst hxy
    congr 1
    refine rise_ext p1.2 p2.2 (fun q => ?_)
    by_cases e : x.path = q
    · rw [find_none (fun y hy e2 => bl_ne (p1.1 y hy) (e.trans e2.symm)), find_none (fun y hy e2 => bl_ne (p2.1 y hy) (e.trans e2.symm))]
    · have := h q
      simpa [findE, e] using this

/-- Where no directory stands nothing is below. -/
theorem Fit.bare {es : List En} (h : Fit es) {p : Bs} (hp : faultP p = 0) (hf : ∀ d ∈ es, d.path = p → dirK d.kind = false) : ∀ x ∈ es, belowB x.path p = false := by
  have : ∀ n, ∀ x ∈ es, x.path.length ≤ n → belowB x.path p = false := by
    intro n
    induction n with
    | zero =>
      intro x hx hl
      cases hb : belowB x.path p
      · rfl
      · have := below_len hb; omega
    | succ n ih =>
      intro x hx hl
      cases hb : belowB x.path p
      · rfl
      · exfalso
        obtain ⟨h0, h1⟩ := below_step (h.path hx) hp hb
        rcases homeP_iff.1 (h.home x hx) with h2 | ⟨d, hd, hdp, hdk⟩
        · exact h0 h2
        · rcases h1 with h1 | h1
          · rw [hf d hd (hdp.trans h1)] at hdk; cases hdk
          · have h3 := below_len (parent_above (h.path hx) h0).2
            have := ih d hd (by rw [hdp]; omega)
            rw [hdp, h1] at this; cases this
  exact fun x hx => this _ x hx (Nat.le_refl _)
theorem Fit.bare_find {es : List En} (h : Fit es) {p q : Bs} (hp : faultP p = 0) (hf : ∀ d ∈ es, d.path = p → dirK d.kind = false) (hb : belowB q p = true) : findE es q = none := by
  refine find_none (fun x hx e => ?_)
  have := h.bare hp hf x hx
  rw [e, hb] at this
  cases this
theorem Fit.up {es : List En} (h : Fit es) {p : Bs} {x : En} (hp : faultP p = 0) (hx : x ∈ es) (hb : belowB x.path p = true) : ∃ d ∈ es, d.path = p ∧ dirK d.kind = true := by
  by_cases hd : ∃ d ∈ es, d.path = p ∧ dirK d.kind = true
  · exact hd
  · exfalso
    have := h.bare hp (fun d hd1 hd2 => by
      cases hk : dirK d.kind
      · rfl
      · exact absurd ⟨d, hd1, hd2, hk⟩ hd) x hx
    rw [hb] at this
    cases this
theorem dir_bare {e : En} (h : entFault e = 0) (hk : e.kind ≠ 1) : e.size = 0 ∧ e.chunks = [] := by
  have hp := entFault_zero h
  have hf : formE e = true := by
    cases hf : formE e
    · rw [entFault_form hp hf] at h; cases h
    · rfl
  simp only [formE, decide_eq_true_eq] at hf
  rcases hf.2 with h1 | ⟨h1, h2⟩
  · exact absurd h1 hk
  · exact ⟨h1, List.length_eq_zero_iff.1 h2⟩
theorem ent_kinds {e : En} (h : entFault e = 0) : e.kind = 1 ∨ e.kind = 2 ∨ e.kind = 3 ∨ e.kind = 4 := by
  have hp := entFault_zero h
  have hf : formE e = true := by
    cases hf : formE e
    · rw [entFault_form hp hf] at h; cases h
    · rfl
  simp only [formE, decide_eq_true_eq] at hf
  omega
/-- Two entries of one path and of one kind that is no file are one. -/
theorem dir_one {d e : En} (h1 : entFault d = 0) (h2 : entFault e = 0) (hp : d.path = e.path) (hk : d.kind = e.kind) (hn : e.kind ≠ 1) : d = e := by
  obtain ⟨a1, a2⟩ := dir_bare h1 (by rw [hk]; exact hn)
  obtain ⟨b1, b2⟩ := dir_bare h2 hn
  cases d; cases e; simp_all
/-- The same entry with another kind that is no file. -/
def kindE (e : En) (k : Int) : En := { e with kind := k }
theorem ent_kind {e : En} {k : Int} (h : entFault e = 0) (hk : e.kind ≠ 1 ∨ (e.size = 0 ∧ e.chunks = [])) (h1 : 1 ≤ k) (h2 : k ≤ 4) : entFault (kindE e k) = 0 := by
  have hp := entFault_zero h
  obtain ⟨a1, a2⟩ : e.size = 0 ∧ e.chunks = [] := hk.elim (fun x => dir_bare h x) id
  have b1 : formE (kindE e k) = true := by simp [formE, kindE, a1, a2, h1, h2]
  have b2 : sizeE (kindE e k) = true := by simp [sizeE, kindE, a1]
  have b3 : manyE (kindE e k) = true := by simp [manyE, kindE, a1, a2]
  have b4 : (kindE e k).chunks.all isDig = true := by simp [kindE, a2]
  have b5 : faultP (kindE e k).path = 0 := hp
  rw [entFault_digs b5 b1 b2 b3, if_pos b4]

theorem mem_rest {t : List En} {p : Bs} {x : En} : x ∈ restE t p true ↔ x ∈ t ∧ x.path ≠ p ∧ belowB x.path p = false := by
  simp only [restE, goesE, List.mem_filter, Bool.not_eq_true', Bool.or_eq_false_iff, Bool.true_and, decide_eq_false_iff_not]
  exact ⟨fun h => ⟨h.1, h.2.2, h.2.1⟩, fun h => ⟨h.1, h.2.2, h.2.1⟩⟩
theorem find_rest (t : List En) (p q : Bs) : findE (restE t p true) q = if q = p then none else if belowB q p then none else findE t q := by
  have := find_filter t (fun y => !(belowB y p || (true && decide (y = p)))) q
  have e1 : restE t p true = t.filter (fun e => (fun y => !(belowB y p || (true && decide (y = p)))) e.path) := rfl
  rw [e1, this]
  by_cases h1 : q = p
  · simp [h1]
  · cases h2 : belowB q p <;> simp [h1]
theorem rest_rise {t : List En} (h : Rise t) (p : Bs) : Rise (restE t p true) := h.sublist List.filter_sublist
/-- What is left with a path has its home among what is left. -/
theorem rest_home {t : List En} (h : Fit t) {p : Bs} (hp : faultP p = 0) : ∀ x ∈ restE t p true, homeP (restE t p true) x.path = true := by
  intro x hx
  obtain ⟨hx, hn, hb⟩ := mem_rest.1 hx
  rw [homeP_iff]
  rcases homeP_iff.1 (h.home x hx) with h0 | ⟨d, hd, hdp, hdk⟩
  · exact .inl h0
  · by_cases h0 : parentP x.path = []
    · exact .inl h0
    · have hbx := (parent_above (h.path hx) h0).2
      rw [← hdp] at hbx
      refine .inr ⟨d, mem_rest.2 ⟨hd, fun e => ?_, ?_⟩, hdp, hdk⟩
      · rw [e, hb] at hbx; cases hbx
      · cases h3 : belowB d.path p
        · rfl
        · rw [below_trans hbx h3] at hb; cases hb
theorem rest_fit {t : List En} (h : Fit t) {p : Bs} (hp : faultP p = 0) : Fit (restE t p true) :=
  ⟨fun e he => h.ent e (mem_rest.1 he).1, rest_rise h.rise p, rest_home h hp⟩
theorem home_rest {t : List En} {p : Bs} (hp : faultP p = 0) (hh : homeP t p = true) : homeP (restE t p true) p = true := by
  rw [homeP_iff] at hh ⊢
  rcases hh with h0 | ⟨d, hd, hdp, hdk⟩
  · exact .inl h0
  · by_cases h0 : parentP p = []
    · exact .inl h0
    · have hb := (parent_above hp h0).2
      have hl := below_len hb
      refine .inr ⟨d, mem_rest.2 ⟨hd, fun e => ?_, ?_⟩, hdp, hdk⟩
      · rw [← hdp, e] at hl; omega
      · cases h3 : belowB d.path p
        · rfl
        · have := below_len h3; rw [hdp] at this; omega
/-- A right entry put in its place. -/
theorem fit_place {t : List En} {e : En} (h : Fit t) (he : entFault e = 0) (hh : homeP t e.path = true) : Fit (putAt (restE t e.path true) e) := by
  have hp := entFault_zero he
  have hr := rest_fit h hp
  have hn : ∀ x ∈ restE t e.path true, x.path ≠ e.path := fun x hx => (mem_rest.1 hx).2.1
  have hmono : ∀ q, homeP (restE t e.path true) q = true → homeP (putAt (restE t e.path true) e) q = true := by
    intro q hq
    rw [homeP_iff] at hq ⊢
    rcases hq with h0 | ⟨d, hd, hd2⟩
    · exact .inl h0
    · exact .inr ⟨d, mem_putAt.2 (.inr hd), hd2⟩
  refine ⟨fun x hx => ?_, rise_putAt hr.rise hn, fun x hx => ?_⟩
  · rcases mem_putAt.1 hx with rfl | hx
    · exact he
    · exact hr.ent x hx
  · rcases mem_putAt.1 hx with rfl | hx
    · exact hmono _ (home_rest hp hh)
    · exact hmono _ (hr.home x hx)
theorem find_place (t : List En) (e : En) (q : Bs) : findE (putAt (restE t e.path true) e) q = if q = e.path then some e else if belowB q e.path then none else findE t q := by
  rw [find_putAt (fun x hx => (mem_rest.1 hx).2.1), find_rest]
  by_cases h : q = e.path
  · simp [h]
  · simp [h]

/-- How an entry of a layer stands in a tree. -/
def asT (e : En) : En := if e.kind = 4 then kindE e 2 else e
theorem asT_path (e : En) : (asT e).path = e.path := by unfold asT; split <;> rfl
theorem asT_ent {e : En} (h : entFault e = 0) : entFault (asT e) = 0 := by
  unfold asT
  split
  · rename_i h4
    exact ent_kind h (.inl (by omega)) (by decide) (by decide)
  · exact h
theorem asT_kind {e : En} (h : entFault e = 0) (h3 : e.kind ≠ 3) : treeK (asT e).kind = true := by
  unfold asT
  rcases ent_kinds h with h1 | h1 | h1 | h1
  · simp [h1, treeK]
  · simp [h1, treeK]
  · exact absurd h1 h3
  · simp [h1, treeK, kindE]
theorem asT_dir {e : En} (hk : dirK e.kind = true) : (asT e).kind = 2 := by
  simp only [dirK, decide_eq_true_eq] at hk
  unfold asT
  rcases hk with hk | hk <;> simp [hk, kindE]
/-- All directories of one path are one in a tree. -/
theorem asT_one {d e : En} (h1 : entFault d = 0) (h2 : entFault e = 0) (hp : d.path = e.path) (hd : dirK d.kind = true) (he : dirK e.kind = true) : asT d = asT e := by
  refine dir_one (asT_ent h1) (asT_ent h2) (by rw [asT_path, asT_path, hp]) (by rw [asT_dir hd, asT_dir he]) (by rw [asT_dir he]; decide)
/-- An entry of a layer laid over a tree. -/
def overE (t : List En) (e : En) : List En :=
  if e.kind = 3 then restE t e.path true else if e.kind = 2 ∧ hasDir t e.path = true then t else putAt (restE t e.path true) (asT e)
def mergeE (t L : List En) : List En := L.foldl overE t
theorem hasDir_iff {t : List En} {p : Bs} : hasDir t p = true ↔ ∃ d ∈ t, d.path = p ∧ dirK d.kind = true := by
  simp [hasDir]
theorem hasDir_not {t : List En} {p : Bs} (h : ¬ hasDir t p = true) : ∀ d ∈ t, d.path = p → dirK d.kind = false := by
  intro d hd hp
  cases hk : dirK d.kind
  · rfl
  · exact absurd (hasDir_iff.2 ⟨d, hd, hp, hk⟩) h
theorem FitT.dir {t : List En} (h : FitT t) {d : En} (hd : d ∈ t) (hk : dirK d.kind = true) : d.kind = 2 := by
  have h1 := h.kind d hd
  simp only [treeK, dirK, decide_eq_true_eq] at h1 hk
  omega
theorem place_asT (t : List En) (e : En) : putAt (restE t e.path true) (asT e) = putAt (restE t (asT e).path true) (asT e) := by rw [asT_path]
theorem find_over {t : List En} {e : En} (h : FitT t) (he : entFault e = 0) (q : Bs) :
    findE (overE t e) q = if q = e.path then (if e.kind = 3 then none else some (asT e)) else if (!decide (e.kind = 2)) && belowB q e.path then none else findE t q := by
  have hp := entFault_zero he
  unfold overE
  by_cases h3 : e.kind = 3
  · rw [if_pos h3, find_rest]
    have : (!decide (e.kind = 2)) = true := by simp [h3]
    rw [this, Bool.true_and, if_pos h3]
  · rw [if_neg h3, if_neg h3]
    by_cases hd : e.kind = 2 ∧ hasDir t e.path = true
    · rw [if_pos hd]
      have e1 : (!decide (e.kind = 2)) = false := by simp [hd.1]
      rw [e1, Bool.false_and, if_neg Bool.false_ne_true]
      by_cases hq : q = e.path
      · rw [if_pos hq]
        obtain ⟨d, hdm, hdp, hdk⟩ := hasDir_iff.1 hd.2
        have h2 := h.dir hdm hdk
        have e2 : asT e = e := by unfold asT; rw [if_neg (by omega)]
        rw [hq, ← hdp, rise_find h.fit.rise hdm, e2, dir_one (h.fit.ent d hdm) he hdp (by rw [h2, hd.1]) (by omega)]
      · rw [if_neg hq]
    · rw [if_neg hd, place_asT, find_place, asT_path]
      by_cases hq : q = e.path
      · rw [if_pos hq, if_pos hq]
      · rw [if_neg hq, if_neg hq]
        by_cases h2 : e.kind = 2
        · have e1 : (!decide (e.kind = 2)) = false := by simp [h2]
          rw [e1, Bool.false_and, if_neg Bool.false_ne_true]
          cases hb : belowB q e.path
          · simp
          · rw [if_pos rfl]
            exact (h.fit.bare_find hp (hasDir_not (fun x => hd ⟨h2, x⟩)) hb).symm
        · have e1 : (!decide (e.kind = 2)) = true := by simp [h2]
          rw [e1, Bool.true_and]
theorem fitT_over {t : List En} {e : En} (h : FitT t) (he : entFault e = 0) (hh : homeP t e.path = true) : FitT (overE t e) := by
  have hp := entFault_zero he
  unfold overE
  by_cases h3 : e.kind = 3
  · rw [if_pos h3]
    exact ⟨rest_fit h.fit hp, fun x hx => h.kind x (mem_rest.1 hx).1⟩
  · rw [if_neg h3]
    by_cases hd : e.kind = 2 ∧ hasDir t e.path = true
    · rw [if_pos hd]; exact h
    · rw [if_neg hd, place_asT]
      refine ⟨fit_place h.fit (asT_ent he) (by rw [asT_path]; exact hh), fun x hx => ?_⟩
      rcases mem_putAt.1 hx with rfl | hx
      · exact asT_kind he h3
      · exact h.kind x (mem_rest.1 hx).1
theorem putAt_length (bs : List En) (e : En) : (putAt bs e).length = bs.length + 1 := by
  unfold putAt
  simp only [List.length_append, List.length_cons, List.length_take, List.length_drop]
  omega
theorem over_len (t : List En) (e : En) : (overE t e).length ≤ t.length + 1 := by
  have := restE_len t e.path true
  unfold overE
  split
  · omega
  · split
    · omega
    · rw [putAt_length]; omega
theorem merge_len : ∀ (L t : List En), (mergeE t L).length ≤ t.length + L.length
  | [], t => by simp [mergeE]
  | e :: L, t => by
    have h1 := merge_len L (overE t e)
    have h2 := over_len t e
    have h3 : mergeE t (e :: L) = mergeE (overE t e) L := rfl
    rw [h3, List.length_cons]
    omega
/-- Is a path below an entry that hides what is below? -/
def hid (L : List En) (q : Bs) : Bool := L.any fun e => (!decide (e.kind = 2)) && belowB q e.path
theorem hid_snoc (D : List En) (e : En) (q : Bs) : hid (D ++ [e]) q = (hid D q || ((!decide (e.kind = 2)) && belowB q e.path)) := by
  simp [hid, List.any_append]
theorem hid_iff {L : List En} {q : Bs} : hid L q = true ↔ ∃ e ∈ L, e.kind ≠ 2 ∧ belowB q e.path = true := by
  simp [hid]
/-- What is seen at a path of a layer over a tree. -/
def seeT (t L : List En) (q : Bs) : Option En :=
  match findE L q with
  | some e => if e.kind = 3 then none else some (asT e)
  | none => if hid L q then none else findE t q
theorem seeT_some {t L : List En} {q : Bs} {e : En} (h : findE L q = some e) : seeT t L q = if e.kind = 3 then none else some (asT e) := by simp [seeT, h]
theorem seeT_none {t L : List En} {q : Bs} (h : findE L q = none) : seeT t L q = if hid L q then none else findE t q := by simp [seeT, h]
/-- The entry at place k of a layer: all ahead of it is lower, and its home is ahead of it. -/
theorem lay_step {L : List En} {k : Nat} {e : En} (hL : Fit L) (he : L[k]? = some e) :
    (∀ x ∈ L.take k, Op.bytesLess x.path e.path = true) ∧ (parentP e.path = [] ∨ ∃ d ∈ L.take k, d.path = parentP e.path ∧ dirK d.kind = true) := by
  have hem := List.mem_of_getElem? he
  obtain ⟨hk, hke⟩ := List.getElem?_eq_some_iff.1 he
  have hs : L = L.take k ++ e :: L.drop (k + 1) := by
    conv => lhs; rw [← List.take_append_drop k L, List.drop_eq_getElem_cons hk, hke]
  have hr := hL.rise
  unfold Rise at hr
  rw [hs, List.pairwise_append] at hr
  refine ⟨fun x hx => hr.2.2 x hx e List.mem_cons_self, ?_⟩
  rcases homeP_iff.1 (hL.home e hem) with h0 | ⟨d, hd, hdp, hdk⟩
  · exact .inl h0
  · by_cases h0 : parentP e.path = []
    · exact .inl h0
    · have hb := below_less (parent_above (hL.path hem) h0).2
      rw [← hdp] at hb
      rw [hs] at hd
      rcases List.mem_append.1 hd with hd | hd
      · exact .inr ⟨d, hd, hdp, hdk⟩
      · exfalso
        rcases List.mem_cons.1 hd with rfl | hd
        · rw [bl_irrefl] at hb; cases hb
        · have := bl_asymm ((List.pairwise_cons.1 hr.2.1).1 d hd)
          rw [hb] at this; cases this
theorem take_next {L : List En} {k : Nat} {e : En} (he : L[k]? = some e) : L.take (k + 1) = L.take k ++ [e] := by
  rw [List.take_add_one, he]; rfl
theorem merge_view {t L : List En} (ht : FitT t) (hL : Fit L) : ∀ k, k ≤ L.length → FitT (mergeE t (L.take k)) ∧ ∀ q, findE (mergeE t (L.take k)) q = seeT t (L.take k) q
  | 0, _ => by
    refine ⟨by simpa [mergeE] using ht, fun q => ?_⟩
    simp [mergeE, seeT, findE, hid]
  | k + 1, hk => by
    obtain ⟨e, he⟩ : ∃ e, L[k]? = some e := ⟨_, List.getElem?_eq_getElem (by omega)⟩
    obtain ⟨ih1, ih2⟩ := merge_view ht hL k (by omega)
    obtain ⟨hlt, hho⟩ := lay_step hL he
    have hee := hL.ent e (List.mem_of_getElem? he)
    have hrD : Rise (L.take k) := hL.rise.sublist (List.take_sublist _ _)
    have hne : ∀ x ∈ L.take k, x.path ≠ e.path := fun x hx => bl_ne (hlt x hx)
    have hm : mergeE t (L.take (k + 1)) = overE (mergeE t (L.take k)) e := by rw [take_next he]; simp [mergeE, List.foldl_append]
    rw [hm, take_next he]
    generalize L.take k = D at *
    have hhome : homeP (mergeE t D) e.path = true := by
      rw [homeP_iff]
      rcases hho with h0 | ⟨d, hd, hdp, hdk⟩
      · exact .inl h0
      · have h1 := ih2 d.path
        rw [seeT_some (rise_find hrD hd)] at h1
        have hd3 : d.kind ≠ 3 := by intro e3; rw [e3] at hdk; cases hdk
        rw [if_neg hd3] at h1
        exact .inr ⟨asT d, (find_mem h1).1, by rw [asT_path, hdp], by rw [asT_dir hdk]; rfl⟩
    refine ⟨fitT_over ih1 hee hhome, fun q => ?_⟩
    rw [find_over ih1 hee, ih2 q]
    by_cases hq : q = e.path
    · rw [if_pos hq, seeT_some (e := e) (by rw [find_snoc hne, if_pos hq])]
    · rw [if_neg hq]
      have hf : findE (D ++ [e]) q = findE D q := by rw [find_snoc hne, if_neg hq]
      cases hD : findE D q with
      | some x =>
        have hx := find_mem hD
        have hb := not_below_of_less (hlt x hx.1)
        rw [hx.2] at hb
        rw [hb, Bool.and_false, if_neg (by simp), seeT_some hD, seeT_some (hf.trans hD)]
      | none =>
        rw [seeT_none hD, seeT_none (hf.trans hD), hid_snoc]
        cases (!decide (e.kind = 2)) && belowB q e.path <;> cases hid D q <;> simp
theorem merge_fit {t L : List En} (ht : FitT t) (hL : Fit L) : FitT (mergeE t L) := by
  have := (merge_view ht hL L.length (Nat.le_refl _)).1
  rwa [List.take_length] at this
theorem merge_find {t L : List En} (ht : FitT t) (hL : Fit L) (q : Bs) : findE (mergeE t L) q = seeT t L q := by
  have := (merge_view ht hL L.length (Nat.le_refl _)).2 q
  rwa [List.take_length] at this

/-- What an entry of a higher layer comes to over what a lower one has at its path. -/
def squV (o : Option En) (e : En) : En :=
  if e.kind = 2 then
    (match o with
    | some d => if dirK d.kind then d else kindE e 4
    | none => e)
  else e
theorem squV_none (e : En) : squV none e = e := by unfold squV; split <;> rfl
theorem squV_not {o : Option En} {e : En} (h : e.kind ≠ 2) : squV o e = e := by simp [squV, h]
theorem squV_dir {d e : En} (h : e.kind = 2) (hd : dirK d.kind = true) : squV (some d) e = d := by simp [squV, h, hd]
theorem squV_file {d e : En} (h : e.kind = 2) (hd : dirK d.kind = false) : squV (some d) e = kindE e 4 := by simp [squV, h, hd]
/-- An entry of a higher layer laid over a lower one. -/
def squE (l : List En) (e : En) : List En := if e.kind = 2 ∧ hasDir l e.path = true then l else putAt (restE l e.path true) (squV (findE l e.path) e)
def squashE (l h : List En) : List En := h.foldl squE l
theorem squV_path {l : List En} (e : En) : (squV (findE l e.path) e).path = e.path := by
  unfold squV
  split
  · split
    · rename_i d hd
      split
      · exact (find_mem hd).2
      · rfl
    · rfl
  · rfl
theorem squV_ent {l : List En} {e : En} (h : Fit l) (he : entFault e = 0) : entFault (squV (findE l e.path) e) = 0 := by
  unfold squV
  split
  · rename_i h2
    split
    · rename_i d hd
      split
      · exact h.ent d (find_mem hd).1
      · exact ent_kind he (.inl (by omega)) (by decide) (by decide)
    · exact he
  · exact he
theorem squ_dir {l : List En} (h : Fit l) {e : En} (hd : hasDir l e.path = true) : ∃ d, findE l e.path = some d ∧ d ∈ l ∧ dirK d.kind = true := by
  obtain ⟨d, hdm, hdp, hdk⟩ := hasDir_iff.1 hd
  exact ⟨d, by rw [← hdp]; exact rise_find h.rise hdm, hdm, hdk⟩
theorem find_squ {l : List En} {e : En} (h : Fit l) (he : entFault e = 0) (q : Bs) :
    findE (squE l e) q = if q = e.path then some (squV (findE l e.path) e) else if (!decide (e.kind = 2)) && belowB q e.path then none else findE l q := by
  have hp := entFault_zero he
  unfold squE
  by_cases hd : e.kind = 2 ∧ hasDir l e.path = true
  · rw [if_pos hd]
    obtain ⟨d, hf, hdm, hdk⟩ := squ_dir h hd.2
    have e1 : (!decide (e.kind = 2)) = false := by simp [hd.1]
    rw [e1, Bool.false_and, if_neg Bool.false_ne_true]
    by_cases hq : q = e.path
    · rw [if_pos hq, hq, hf, squV_dir hd.1 hdk]
    · rw [if_neg hq]
  · have e0 := find_place l (squV (findE l e.path) e) q
    rw [squV_path] at e0
    rw [if_neg hd, e0]
    by_cases hq : q = e.path
    · rw [if_pos hq, if_pos hq]
    · rw [if_neg hq, if_neg hq]
      by_cases h2 : e.kind = 2
      · have e1 : (!decide (e.kind = 2)) = false := by simp [h2]
        rw [e1, Bool.false_and, if_neg Bool.false_ne_true]
        cases hb : belowB q e.path
        · simp
        · rw [if_pos rfl]
          exact (h.bare_find hp (hasDir_not (fun x => hd ⟨h2, x⟩)) hb).symm
      · have e1 : (!decide (e.kind = 2)) = true := by simp [h2]
        rw [e1, Bool.true_and]
theorem fit_squ {l : List En} {e : En} (h : Fit l) (he : entFault e = 0) (hh : homeP l e.path = true) : Fit (squE l e) := by
  unfold squE
  by_cases hd : e.kind = 2 ∧ hasDir l e.path = true
  · rw [if_pos hd]; exact h
  · rw [if_neg hd]
    have := fit_place h (squV_ent h he) (by rw [squV_path]; exact hh)
    rwa [squV_path] at this
/-- What a layer that is made of two has at a path. -/
def seeS (low high : List En) (q : Bs) : Option En :=
  match findE high q with
  | some e => some (squV (if hid high q then none else findE low q) e)
  | none => if hid high q then none else findE low q
theorem seeS_some {low high : List En} {q : Bs} {e : En} (h : findE high q = some e) : seeS low high q = some (squV (if hid high q then none else findE low q) e) := by simp [seeS, h]
theorem seeS_none {low high : List En} {q : Bs} (h : findE high q = none) : seeS low high q = if hid high q then none else findE low q := by simp [seeS, h]
theorem squV_dirK {o : Option En} {e : En} (h : dirK e.kind = true) : dirK (squV o e).kind = true := by
  unfold squV
  split
  · split
    · rename_i d
      by_cases hd : dirK d.kind = true
      · rw [if_pos hd]; exact hd
      · rw [if_neg hd]; rfl
    · exact h
  · exact h
theorem squash_view {low high : List En} (hl : Fit low) (hh : Fit high) : ∀ k, k ≤ high.length → Fit (squashE low (high.take k)) ∧ ∀ q, findE (squashE low (high.take k)) q = seeS low (high.take k) q
  | 0, _ => by
    refine ⟨by simpa [squashE] using hl, fun q => ?_⟩
    simp [squashE, seeS, findE, hid]
  | k + 1, hk => by
    obtain ⟨e, he⟩ : ∃ e, high[k]? = some e := ⟨_, List.getElem?_eq_getElem (by omega)⟩
    obtain ⟨ih1, ih2⟩ := squash_view hl hh k (by omega)
    obtain ⟨hlt, hho⟩ := lay_step hh he
    have hee := hh.ent e (List.mem_of_getElem? he)
    have hrD : Rise (high.take k) := hh.rise.sublist (List.take_sublist _ _)
    have hne : ∀ x ∈ high.take k, x.path ≠ e.path := fun x hx => bl_ne (hlt x hx)
    have hm : squashE low (high.take (k + 1)) = squE (squashE low (high.take k)) e := by rw [take_next he]; simp [squashE, List.foldl_append]
    rw [hm, take_next he]
    generalize high.take k = D at *
    have hhome : homeP (squashE low D) e.path = true := by
      rw [homeP_iff]
      rcases hho with h0 | ⟨d, hd, hdp, hdk⟩
      · exact .inl h0
      · have h1 := ih2 d.path
        rw [seeS_some (rise_find hrD hd)] at h1
        have h2 := find_mem h1
        exact .inr ⟨_, h2.1, h2.2.trans hdp, squV_dirK hdk⟩
    refine ⟨fit_squ ih1 hee hhome, fun q => ?_⟩
    rw [find_squ ih1 hee, ih2 q]
    by_cases hq : q = e.path
    · have hD : findE D e.path = none := find_none hne
      have hs : findE (D ++ [e]) q = some e := by rw [find_snoc hne, if_pos hq]
      rw [if_pos hq, seeS_some hs, hid_snoc, ih2 e.path, seeS_none hD, hq, below_irrefl, Bool.and_false, Bool.or_false]
    · rw [if_neg hq]
      have hf : findE (D ++ [e]) q = findE D q := by rw [find_snoc hne, if_neg hq]
      cases hD : findE D q with
      | some x =>
        have hx := find_mem hD
        have hb := not_below_of_less (hlt x hx.1)
        rw [hx.2] at hb
        rw [hb, Bool.and_false, if_neg (by simp), seeS_some hD, seeS_some (hf.trans hD), hid_snoc, hb, Bool.and_false, Bool.or_false]
      | none =>
        rw [seeS_none hD, seeS_none (hf.trans hD), hid_snoc]
        cases (!decide (e.kind = 2)) && belowB q e.path <;> cases hid D q <;> simp
theorem squash_fit {low high : List En} (hl : Fit low) (hh : Fit high) : Fit (squashE low high) := by
  have := (squash_view hl hh high.length (Nat.le_refl _)).1
  rwa [List.take_length] at this
theorem squash_find {low high : List En} (hl : Fit low) (hh : Fit high) (q : Bs) : findE (squashE low high) q = seeS low high q := by
  have := (squash_view hl hh high.length (Nat.le_refl _)).2 q
  rwa [List.take_length] at this
/-- A layer that is made of two hides below a path what both hide. -/
theorem squash_hid {low high : List En} (hl : Fit low) (hh : Fit high) {q : Bs} : hid (squashE low high) q = (hid high q || hid low q) := by
  have hS := squash_fit hl hh
  have hv := squash_find hl hh
  rw [Bool.eq_iff_iff, Bool.or_eq_true, hid_iff]
  constructor
  · rintro ⟨s, hs, hk, hb⟩
    by_cases hH : hid high q = true
    · exact .inl hH
    · refine .inr ?_
      have h1 := rise_find hS.rise hs
      rw [hv] at h1
      cases hf : findE high s.path with
      | none =>
        rw [seeS_none hf] at h1
        by_cases hx : hid high s.path = true
        · rw [if_pos hx] at h1; cases h1
        · rw [if_neg hx] at h1
          exact hid_iff.2 ⟨s, (find_mem h1).1, hk, hb⟩
      | some e =>
        obtain ⟨hem, hep⟩ := find_mem hf
        have he2 : e.kind = 2 := by
          by_cases h2 : e.kind = 2
          · exact h2
          · exact absurd (hid_iff.2 ⟨e, hem, h2, by rw [hep]; exact hb⟩) hH
        rw [seeS_some hf] at h1
        have h2 := Option.some.inj h1
        cases ho : (if hid high s.path then none else findE low s.path) with
        | none =>
          rw [ho, squV_none] at h2
          rw [← h2] at hk
          exact absurd he2 hk
        | some d =>
          rw [ho] at h2
          have hd : findE low s.path = some d := by
            by_cases hx : hid high s.path = true
            · rw [if_pos hx] at ho; cases ho
            · rwa [if_neg hx] at ho
          have hdm := find_mem hd
          refine hid_iff.2 ⟨d, hdm.1, ?_, by rw [hdm.2]; exact hb⟩
          cases hdk : dirK d.kind
          · intro e2; rw [e2] at hdk; cases hdk
          · rw [squV_dir he2 hdk] at h2
            rw [h2]; exact hk
  · rintro (h | h)
    · obtain ⟨e, hem, hk, hb⟩ := hid_iff.1 h
      have hf := rise_find hh.rise hem
      have h1 := hv e.path
      rw [seeS_some hf, squV_not hk] at h1
      exact ⟨e, (find_mem h1).1, hk, hb⟩
    · by_cases hH : hid high q = true
      · obtain ⟨e, hem, hk, hb⟩ := hid_iff.1 hH
        have hf := rise_find hh.rise hem
        have h1 := hv e.path
        rw [seeS_some hf, squV_not hk] at h1
        exact ⟨e, (find_mem h1).1, hk, hb⟩
      · obtain ⟨d, hdm, hk, hb⟩ := hid_iff.1 h
        have hfd := rise_find hl.rise hdm
        have hnd : hid high d.path = false := by
          cases hx : hid high d.path
          · rfl
          · obtain ⟨e, hem, hk2, hb2⟩ := hid_iff.1 hx
            exact absurd (hid_iff.2 ⟨e, hem, hk2, below_trans hb hb2⟩) hH
        have h1 := hv d.path
        cases hf : findE high d.path with
        | none =>
          rw [seeS_none hf, hnd, if_neg (by simp), hfd] at h1
          exact ⟨d, (find_mem h1).1, hk, hb⟩
        | some e =>
          obtain ⟨hem, hep⟩ := find_mem hf
          have he2 : e.kind = 2 := by
            by_cases h2 : e.kind = 2
            · exact h2
            · exact absurd (hid_iff.2 ⟨e, hem, h2, by rw [hep]; exact hb⟩) hH
          rw [seeS_some hf, hnd, if_neg (by simp), hfd] at h1
          cases hdk : dirK d.kind
          · rw [squV_file he2 hdk] at h1
            exact ⟨_, (find_mem h1).1, by show (4 : Int) ≠ 2; decide, by show belowB q e.path = true; rw [hep]; exact hb⟩
          · rw [squV_dir he2 hdk] at h1
            exact ⟨d, (find_mem h1).1, hk, hb⟩
/-- Two layers that are made one do what they do one behind the other. -/
theorem squash_merge {t low high : List En} (ht : FitT t) (hl : Fit low) (hh : Fit high) : mergeE t (squashE low high) = mergeE (mergeE t low) high := by
  have hS := squash_fit hl hh
  have hm := merge_fit ht hl
  refine rise_ext (merge_fit ht hS).fit.rise (merge_fit hm hh).fit.rise (fun q => ?_)
  rw [merge_find ht hS, merge_find hm hh]
  cases hf : findE high q with
  | some e =>
    obtain ⟨hem, hep⟩ := find_mem hf
    have hs := squash_find hl hh q
    rw [seeS_some hf] at hs
    rw [seeT_some hs, seeT_some hf]
    by_cases h2 : e.kind = 2
    · have hd2 : dirK e.kind = true := by rw [h2]; rfl
      have hk := squV_dirK (o := if hid high q then none else findE low q) hd2
      have hm2 := find_mem hs
      have h3 : (squV (if hid high q then none else findE low q) e).kind ≠ 3 := by intro e3; rw [e3] at hk; cases hk
      rw [if_neg h3, if_neg (show ¬ e.kind = 3 by omega)]
      rw [asT_one (hS.ent _ hm2.1) (hh.ent e hem) (hm2.2.trans hep.symm) hk hd2]
    · rw [squV_not h2]
  | none =>
    have hs := squash_find hl hh q
    rw [seeS_none hf] at hs
    rw [seeT_none hf]
    cases hH : hid high q
    · rw [hH, if_neg (by simp)] at hs
      rw [if_neg (by simp), merge_find ht hl]
      cases hlq : findE low q with
      | some d => rw [seeT_some (hs.trans hlq), seeT_some hlq]
      | none => rw [seeT_none (hs.trans hlq), seeT_none hlq, squash_hid hl hh, hH, Bool.false_or]
    · rw [hH, if_pos rfl] at hs
      rw [if_pos rfl, seeT_none hs, squash_hid hl hh, hH, Bool.true_or, if_pos rfl]
theorem squ_len (l : List En) (e : En) : (squE l e).length ≤ l.length + 1 := by
  have := restE_len l e.path true
  unfold squE
  split
  · omega
  · rw [putAt_length]; omega
theorem squash_len : ∀ (h l : List En), (squashE l h).length ≤ l.length + h.length
  | [], l => by simp [squashE]
  | e :: h, l => by
    have h1 := squash_len h (squE l e)
    have h2 := squ_len l e
    have h3 : squashE l (e :: h) = squashE (squE l e) h := rfl
    rw [h3, List.length_cons]
    omega
end Go.Proofs.YtmpojjlpopimfaaGreat
