/-
  Texts put together: MerL OvrL EntX SeeA SeeB.
-/
import Derived.Test.YtejipahfodhmjaaGreatKIsWhol4
import Derived.Test.YtejipahfodhmjaaGreatKIsWhol3
import Derived.Deep.SlicePairs
import Derived.ProofKit
import Derived.ChangeOld
import Derived.Maps.OwnSet
import Derived.DeepKeys5
import Derived.Deep.RegionLaw
namespace Go.Proofs.YtejipahfodhmjaaGreat
set_option linter.unusedVariables false

structure Fit (es : List En) : Prop where
  ent : ∀ e ∈ es, entFault e = 0
  rise : Rise es
  home : ∀ e ∈ es, homeP es e.path = true
structure FitT (es : List En) : Prop where
  fit : Fit es
  kind : ∀ e ∈ es, treeK e.kind = true
theorem fit_nil : Fit [] := ⟨fun e he => by simp at he, List.Pairwise.nil, fun e he => by simp at he⟩
theorem fitT_nil : FitT [] := ⟨fit_nil, fun e he => by simp at he⟩
theorem right_fit {es : List En} : Right es ↔ Fit es ∧ es.length ≤ 12 := ⟨fun h => ⟨⟨h.ent, h.rise, h.home⟩, h.len⟩, fun h => ⟨h.2, h.1.ent, h.1.rise, h.1.home⟩⟩
theorem Fit.path {es : List En} (h : Fit es) {e : En} (he : e ∈ es) : faultP e.path = 0 := entFault_zero (h.ent e he)

theorem bl_append : ∀ (p : Bs) (c : UInt8) (r : Bs), Op.bytesLess p (p ++ c :: r) = true
  | [], c, r => by simp [Op.bytesLess]
  | a :: p, c, r => by simp [Op.bytesLess, bl_append p c r]
theorem below_less {q p : Bs} (h : belowB q p = true) : Op.bytesLess p q = true := by
  obtain ⟨r, _, rfl⟩ := belowB_iff.1 h
  exact bl_append p 47 r
theorem not_below_of_less {q p : Bs} (h : Op.bytesLess q p = true) : belowB q p = false := by
  cases hb : belowB q p
  · rfl
  · have := bl_asymm (below_less hb); rw [h] at this; cases this

theorem find_filter (es : List En) (f : Bs → Bool) (q : Bs) : findE (es.filter fun e => f e.path) q = if f q then findE es q else none := by
  unfold findE
  rw [List.find?_filter]
  cases hq : f q
  · rw [if_neg (by simp), List.find?_eq_none]
    intro x hx
    by_cases e : x.path = q
    · simp [e, hq]
    · simp [e]
  · rw [if_pos rfl]
    congr 1
    funext x
    by_cases e : x.path = q
    · simp [e, hq]
    · simp [e]
theorem find_putAt {bs : List En} {e : En} (hn : ∀ x ∈ bs, x.path ≠ e.path) (q : Bs) : findE (putAt bs e) q = if q = e.path then some e else findE bs q := by
  unfold putAt
  by_cases h : q = e.path
  · rw [if_pos h, findE, List.find?_append]
    have h1 : List.find? (fun x : En => decide (x.path = q)) (bs.take (lowN bs e.path)) = none := by
      rw [List.find?_eq_none]
      intro x hx
      simpa [h] using hn x (List.mem_of_mem_take hx)
    rw [h1]
    simp [h]
  · rw [if_neg h]
    conv => rhs; rw [← List.take_append_drop (lowN bs e.path) bs]
    have h2 : decide (e.path = q) = false := by simpa using fun x : e.path = q => h x.symm
    simp only [findE, List.find?_append, List.find?_cons, h2]
theorem find_snoc {D : List En} {e : En} (hn : ∀ x ∈ D, x.path ≠ e.path) (q : Bs) : findE (D ++ [e]) q = if q = e.path then some e else findE D q := by
  by_cases h : q = e.path
  · rw [if_pos h, findE, List.find?_append]
    have h1 : List.find? (fun x : En => decide (x.path = q)) D = none := by
      rw [List.find?_eq_none]
      intro x hx
      simpa [h] using hn x hx
    rw [h1]
    simp [h]
  · rw [if_neg h]
    have h2 : decide (e.path = q) = false := by simpa using fun x : e.path = q => h x.symm
    simp only [findE, List.find?_append, List.find?_cons, h2, List.find?_nil, Option.or_none]
theorem rise_ext : ∀ {es fs : List En}, Rise es → Rise fs → (∀ q, findE es q = findE fs q) → es = fs
  | [], [], _, _, _ => rfl
  | [], y :: fs, _, h2, h => by
    have := h y.path
    rw [rise_find h2 List.mem_cons_self] at this
    cases this
  | x :: es, [], h1, _, h => by
    have := h x.path
    rw [rise_find h1 List.mem_cons_self] at this
    cases this
  | x :: es, y :: fs, h1, h2, h => by
    have p1 := List.pairwise_cons.1 h1
    have p2 := List.pairwise_cons.1 h2
    have hx : x ∈ y :: fs := by
      have := h x.path
      rw [rise_find h1 List.mem_cons_self] at this
      exact (find_mem this.symm).1
    have hy : y ∈ x :: es := by
      have := h y.path
      rw [rise_find h2 List.mem_cons_self] at this
      exact (find_mem this).1
    have hxy : x = y := by
      rcases List.mem_cons.1 hx with e | hx
      · exact e
      · rcases List.mem_cons.1 hy with e | hy
        · exact e.symm
        · have a1 := p2.1 x hx
          have a2 := p1.1 y hy
          have := bl_asymm a1
          rw [a2] at this
          cases this
    subst hxy
    congr 1
    refine rise_ext p1.2 p2.2 (fun q => ?_)
    by_cases e : x.path = q
    · rw [find_none (fun y hy e2 => bl_ne (p1.1 y hy) (e.trans e2.symm)), find_none (fun y hy e2 => bl_ne (p2.1 y hy) (e.trans e2.symm))]
    · have := h q
      simpa [findE, e] using this

theorem Fit.bare {es : List En} (h : Fit es) {p : Bs} (hp : faultP p = 0) (hf : ∀ d ∈ es, d.path = p → dirK d.kind = false) : ∀ x ∈ es, belowB x.path p = false := by
  have : ∀ n, ∀ x ∈ es, x.path.length ≤ n → belowB x.path p = false := by
    intro n
    induction n with
    | zero =>
      intro x hx hl
      cases hb : belowB x.path p
      · rfl
      · have := below_len hb; omega
    | succ n ih =>
      intro x hx hl
      cases hb : belowB x.path p
      · rfl
      · exfalso
        obtain ⟨h0, h1⟩ := below_step (h.path hx) hp hb
        rcases homeP_iff.1 (h.home x hx) with h2 | ⟨d, hd, hdp, hdk⟩
        · exact h0 h2
        · rcases h1 with h1 | h1
          · rw [hf d hd (hdp.trans h1)] at hdk; cases hdk
          · have h3 := below_len (parent_above (h.path hx) h0).2
            have := ih d hd (by rw [hdp]; omega)
            rw [hdp, h1] at this; cases this
  exact fun x hx => this _ x hx (Nat.le_refl _)
theorem Fit.bare_find {es : List En} (h : Fit es) {p q : Bs} (hp : faultP p = 0) (hf : ∀ d ∈ es, d.path = p → dirK d.kind = false) (hb : belowB q p = true) : findE es q = none := by
  refine find_none (fun x hx e => ?_)
  have := h.bare hp hf x hx
  rw [e, hb] at this
  cases this
theorem Fit.up {es : List En} (h : Fit es) {p : Bs} {x : En} (hp : faultP p = 0) (hx : x ∈ es) (hb : belowB x.path p = true) : ∃ d ∈ es, d.path = p ∧ dirK d.kind = true := by
  by_cases hd : ∃ d ∈ es, d.path = p ∧ dirK d.kind = true
  · exact hd
  · exfalso
    have := h.bare hp (fun d hd1 hd2 => by
      cases hk : dirK d.kind
      · rfl
      · exact absurd ⟨d, hd1, hd2, hk⟩ hd) x hx
    rw [hb] at this
    cases this
theorem dir_bare {e : En} (h : entFault e = 0) (hk : e.kind ≠ 1) : e.size = 0 ∧ e.chunks = [] := by
  have hp := entFault_zero h
  have hf : formE e = true := by
    cases hf : formE e
    · rw [entFault_form hp hf] at h; cases h
    · rfl
  simp only [formE, decide_eq_true_eq] at hf
  rcases hf.2 with h1 | ⟨h1, h2⟩
  · exact absurd h1 hk
  · exact ⟨h1, List.length_eq_zero_iff.1 h2⟩
theorem ent_kinds {e : En} (h : entFault e = 0) : e.kind = 1 ∨ e.kind = 2 ∨ e.kind = 3 ∨ e.kind = 4 := by
  have hp := entFault_zero h
  have hf : formE e = true := by
    cases hf : formE e
    · rw [entFault_form hp hf] at h; cases h
    · rfl
  simp only [formE, decide_eq_true_eq] at hf
  omega
theorem dir_one {d e : En} (h1 : entFault d = 0) (h2 : entFault e = 0) (hp : d.path = e.path) (hk : d.kind = e.kind) (hn : e.kind ≠ 1) : d = e := by
  obtain ⟨a1, a2⟩ := dir_bare h1 (by rw [hk]; exact hn)
  obtain ⟨b1, b2⟩ := dir_bare h2 hn
  cases d; cases e; simp_all
def kindE (e : En) (k : Int) : En := { e with kind := k }
theorem ent_kind {e : En} {k : Int} (h : entFault e = 0) (hk : e.kind ≠ 1 ∨ (e.size = 0 ∧ e.chunks = [])) (h1 : 1 ≤ k) (h2 : k ≤ 4) : entFault (kindE e k) = 0 := by
  have hp := entFault_zero h
  obtain ⟨a1, a2⟩ : e.size = 0 ∧ e.chunks = [] := hk.elim (fun x => dir_bare h x) id
  have b1 : formE (kindE e k) = true := by simp [formE, kindE, a1, a2, h1, h2]
  have b2 : sizeE (kindE e k) = true := by simp [sizeE, kindE, a1]
  have b3 : manyE (kindE e k) = true := by simp [manyE, kindE, a1, a2]
  have b4 : (kindE e k).chunks.all isDig = true := by simp [kindE, a2]
  have b5 : faultP (kindE e k).path = 0 := hp
  rw [entFault_digs b5 b1 b2 b3, if_pos b4]

theorem mem_rest {t : List En} {p : Bs} {x : En} : x ∈ restE t p true ↔ x ∈ t ∧ x.path ≠ p ∧ belowB x.path p = false := by
  simp only [restE, goesE, List.mem_filter, Bool.not_eq_true', Bool.or_eq_false_iff, Bool.true_and, decide_eq_false_iff_not]
  exact ⟨fun h => ⟨h.1, h.2.2, h.2.1⟩, fun h => ⟨h.1, h.2.2, h.2.1⟩⟩
theorem find_rest (t : List En) (p q : Bs) : findE (restE t p true) q = if q = p then none else if belowB q p then none else findE t q := by
  have := find_filter t (fun y => !(belowB y p || (true && decide (y = p)))) q
  have e1 : restE t p true = t.filter (fun e => (fun y => !(belowB y p || (true && decide (y = p)))) e.path) := rfl
  rw [e1, this]
  by_cases h1 : q = p
  · simp [h1]
  · cases h2 : belowB q p <;> simp [h1]
theorem rest_rise {t : List En} (h : Rise t) (p : Bs) : Rise (restE t p true) := h.sublist List.filter_sublist
theorem rest_home {t : List En} (h : Fit t) {p : Bs} (hp : faultP p = 0) : ∀ x ∈ restE t p true, homeP (restE t p true) x.path = true := by
  intro x hx
  obtain ⟨hx, hn, hb⟩ := mem_rest.1 hx
  rw [homeP_iff]
  rcases homeP_iff.1 (h.home x hx) with h0 | ⟨d, hd, hdp, hdk⟩
  · exact .inl h0
  · by_cases h0 : parentP x.path = []
    · exact .inl h0
    · have hbx := (parent_above (h.path hx) h0).2
      rw [← hdp] at hbx
      refine .inr ⟨d, mem_rest.2 ⟨hd, fun e => ?_, ?_⟩, hdp, hdk⟩
      · rw [e, hb] at hbx; cases hbx
      · cases h3 : belowB d.path p
        · rfl
        · rw [below_trans hbx h3] at hb; cases hb
theorem rest_fit {t : List En} (h : Fit t) {p : Bs} (hp : faultP p = 0) : Fit (restE t p true) :=
  ⟨fun e he => h.ent e (mem_rest.1 he).1, rest_rise h.rise p, rest_home h hp⟩
theorem home_rest {t : List En} {p : Bs} (hp : faultP p = 0) (hh : homeP t p = true) : homeP (restE t p true) p = true := by
  rw [homeP_iff] at hh ⊢
  rcases hh with h0 | ⟨d, hd, hdp, hdk⟩
  · exact .inl h0
  · by_cases h0 : parentP p = []
    · exact .inl h0
    · have hb := (parent_above hp h0).2
      have hl := below_len hb
      refine .inr ⟨d, mem_rest.2 ⟨hd, fun e => ?_, ?_⟩, hdp, hdk⟩
      · rw [← hdp, e] at hl; omega
      · cases h3 : belowB d.path p
        · rfl
        · have := below_len h3; rw [hdp] at this; omega
theorem fit_place {t : List En} {e : En} (h : Fit t) (he : entFault e = 0) (hh : homeP t e.path = true) : Fit (putAt (restE t e.path true) e) := by
  have hp := entFault_zero he
  have hr := rest_fit h hp
  have hn : ∀ x ∈ restE t e.path true, x.path ≠ e.path := fun x hx => (mem_rest.1 hx).2.1
  have hmono : ∀ q, homeP (restE t e.path true) q = true → homeP (putAt (restE t e.path true) e) q = true := by
    intro q hq
    rw [homeP_iff] at hq ⊢
    rcases hq with h0 | ⟨d, hd, hd2⟩
    · exact .inl h0
    · exact .inr ⟨d, mem_putAt.2 (.inr hd), hd2⟩
  refine ⟨fun x hx => ?_, rise_putAt hr.rise hn, fun x hx => ?_⟩
  · rcases mem_putAt.1 hx with rfl | hx
    · exact he
    · exact hr.ent x hx
  · rcases mem_putAt.1 hx with rfl | hx
    · exact hmono _ (home_rest hp hh)
    · exact hmono _ (hr.home x hx)
theorem find_place (t : List En) (e : En) (q : Bs) : findE (putAt (restE t e.path true) e) q = if q = e.path then some e else if belowB q e.path then none else findE t q := by
  rw [find_putAt (fun x hx => (mem_rest.1 hx).2.1), find_rest]
  by_cases h : q = e.path
  · simp [h]
  · simp [h]

def asT (e : En) : En := if e.kind = 4 then kindE e 2 else e
theorem asT_path (e : En) : (asT e).path = e.path := by unfold asT; split <;> rfl
theorem asT_ent {e : En} (h : entFault e = 0) : entFault (asT e) = 0 := by
  unfold asT
  split
  · rename_i h4
    exact ent_kind h (.inl (by omega)) (by decide) (by decide)
  · exact h
theorem asT_kind {e : En} (h : entFault e = 0) (h3 : e.kind ≠ 3) : treeK (asT e).kind = true := by
  unfold asT
  rcases ent_kinds h with h1 | h1 | h1 | h1
  · simp [h1, treeK]
  · simp [h1, treeK]
  · exact absurd h1 h3
  · simp [h1, treeK, kindE]
theorem asT_dir {e : En} (hk : dirK e.kind = true) : (asT e).kind = 2 := by
  simp only [dirK, decide_eq_true_eq] at hk
  unfold asT
  rcases hk with hk | hk <;> simp [hk, kindE]
def overE (t : List En) (e : En) : List En :=
  if e.kind = 3 then restE t e.path true else if e.kind = 2 ∧ hasDir t e.path = true then t else putAt (restE t e.path true) (asT e)
def mergeE (t L : List En) : List En := L.foldl overE t
theorem hasDir_iff {t : List En} {p : Bs} : hasDir t p = true ↔ ∃ d ∈ t, d.path = p ∧ dirK d.kind = true := by
  simp [hasDir]
theorem hasDir_not {t : List En} {p : Bs} (h : ¬ hasDir t p = true) : ∀ d ∈ t, d.path = p → dirK d.kind = false := by
  intro d hd hp
  cases hk : dirK d.kind
  · rfl
  · exact absurd (hasDir_iff.2 ⟨d, hd, hp, hk⟩) h
theorem FitT.dir {t : List En} (h : FitT t) {d : En} (hd : d ∈ t) (hk : dirK d.kind = true) : d.kind = 2 := by
  have h1 := h.kind d hd
  simp only [treeK, dirK, decide_eq_true_eq] at h1 hk
  omega
theorem place_asT (t : List En) (e : En) : putAt (restE t e.path true) (asT e) = putAt (restE t (asT e).path true) (asT e) := by rw [asT_path]
theorem find_over {t : List En} {e : En} (h : FitT t) (he : entFault e = 0) (q : Bs) :
    findE (overE t e) q = if q = e.path then (if e.kind = 3 then none else some (asT e)) else if (!decide (e.kind = 2)) && belowB q e.path then none else findE t q := by
  have hp := entFault_zero he
  unfold overE
  by_cases h3 : e.kind = 3
  · rw [if_pos h3, find_rest]
    have : (!decide (e.kind = 2)) = true := by simp [h3]
    rw [this, Bool.true_and, if_pos h3]
  · rw [if_neg h3, if_neg h3]
    by_cases hd : e.kind = 2 ∧ hasDir t e.path = true
    · rw [if_pos hd]
      have e1 : (!decide (e.kind = 2)) = false := by simp [hd.1]
      rw [e1, Bool.false_and, if_neg Bool.false_ne_true]
      by_cases hq : q = e.path
      · rw [if_pos hq]
        obtain ⟨d, hdm, hdp, hdk⟩ := hasDir_iff.1 hd.2
        have h2 := h.dir hdm hdk
        have e2 : asT e = e := by unfold asT; rw [if_neg (by omega)]
        rw [hq, ← hdp, rise_find h.fit.rise hdm, e2, dir_one (h.fit.ent d hdm) he hdp (by rw [h2, hd.1]) (by omega)]
      · rw [if_neg hq]
    · rw [if_neg hd, place_asT, find_place, asT_path]
      by_cases hq : q = e.path
      · rw [if_pos hq, if_pos hq]
      · rw [if_neg hq, if_neg hq]
        by_cases h2 : e.kind = 2
        · have e1 : (!decide (e.kind = 2)) = false := by simp [h2]
          rw [e1, Bool.false_and, if_neg Bool.false_ne_true]
          cases hb : belowB q e.path
          · simp
          · rw [if_pos rfl]
            exact (h.fit.bare_find hp (hasDir_not (fun x => hd ⟨h2, x⟩)) hb).symm
        · have e1 : (!decide (e.kind = 2)) = true := by simp [h2]
          rw [e1, Bool.true_and]
theorem fitT_over {t : List En} {e : En} (h : FitT t) (he : entFault e = 0) (hh : homeP t e.path = true) : FitT (overE t e) := by
  have hp := entFault_zero he
  unfold overE
  by_cases h3 : e.kind = 3
  · rw [if_pos h3]
    exact ⟨rest_fit h.fit hp, fun x hx => h.kind x (mem_rest.1 hx).1⟩
  · rw [if_neg h3]
    by_cases hd : e.kind = 2 ∧ hasDir t e.path = true
    · rw [if_pos hd]; exact h
    · rw [if_neg hd, place_asT]
      refine ⟨fit_place h.fit (asT_ent he) (by rw [asT_path]; exact hh), fun x hx => ?_⟩
      rcases mem_putAt.1 hx with rfl | hx
      · exact asT_kind he h3
      · exact h.kind x (mem_rest.1 hx).1
theorem putAt_length (bs : List En) (e : En) : (putAt bs e).length = bs.length + 1 := by
  unfold putAt
  simp only [List.length_append, List.length_cons, List.length_take, List.length_drop]
  omega
theorem over_len (t : List En) (e : En) : (overE t e).length ≤ t.length + 1 := by
  have := restE_len t e.path true
  unfold overE
  split
  · omega
  · split
    · omega
    · rw [putAt_length]; omega
theorem merge_len : ∀ (L t : List En), (mergeE t L).length ≤ t.length + L.length
  | [], t => by simp [mergeE]
  | e :: L, t => by
    have h1 := merge_len L (overE t e)
    have h2 := over_len t e
    have h3 : mergeE t (e :: L) = mergeE (overE t e) L := rfl
    rw [h3, List.length_cons]
    omega
def hid (L : List En) (q : Bs) : Bool := L.any fun e => (!decide (e.kind = 2)) && belowB q e.path
theorem hid_snoc (D : List En) (e : En) (q : Bs) : hid (D ++ [e]) q = (hid D q || ((!decide (e.kind = 2)) && belowB q e.path)) := by
  simp [hid, List.any_append]
theorem hid_iff {L : List En} {q : Bs} : hid L q = true ↔ ∃ e ∈ L, e.kind ≠ 2 ∧ belowB q e.path = true := by
  simp [hid]
def seeT (t L : List En) (q : Bs) : Option En :=
  match findE L q with
  | some e => if e.kind = 3 then none else some (asT e)
  | none => if hid L q then none else findE t q
theorem seeT_some {t L : List En} {q : Bs} {e : En} (h : findE L q = some e) : seeT t L q = if e.kind = 3 then none else some (asT e) := by simp [seeT, h]
theorem seeT_none {t L : List En} {q : Bs} (h : findE L q = none) : seeT t L q = if hid L q then none else findE t q := by simp [seeT, h]
theorem lay_step {L : List En} {k : Nat} {e : En} (hL : Fit L) (he : L[k]? = some e) :
    (∀ x ∈ L.take k, Op.bytesLess x.path e.path = true) ∧ (parentP e.path = [] ∨ ∃ d ∈ L.take k, d.path = parentP e.path ∧ dirK d.kind = true) := by
  have hem := List.mem_of_getElem? he
  obtain ⟨hk, hke⟩ := List.getElem?_eq_some_iff.1 he
  have hs : L = L.take k ++ e :: L.drop (k + 1) := by
    conv => lhs; rw [← List.take_append_drop k L, List.drop_eq_getElem_cons hk, hke]
  have hr := hL.rise
  unfold Rise at hr
  rw [hs, List.pairwise_append] at hr
  refine ⟨fun x hx => hr.2.2 x hx e List.mem_cons_self, ?_⟩
  rcases homeP_iff.1 (hL.home e hem) with h0 | ⟨d, hd, hdp, hdk⟩
  · exact .inl h0
  · by_cases h0 : parentP e.path = []
    · exact .inl h0
    · have hb := below_less (parent_above (hL.path hem) h0).2
      rw [← hdp] at hb
      rw [hs] at hd
      rcases List.mem_append.1 hd with hd | hd
      · exact .inr ⟨d, hd, hdp, hdk⟩
      · exfalso
        rcases List.mem_cons.1 hd with rfl | hd
        · rw [bl_irrefl] at hb; cases hb
        · have := bl_asymm ((List.pairwise_cons.1 hr.2.1).1 d hd)
          rw [hb] at this; cases this
theorem take_next {L : List En} {k : Nat} {e : En} (he : L[k]? = some e) : L.take (k + 1) = L.take k ++ [e] := by
  rw [List.take_add_one, he]; rfl
theorem merge_view {t L : List En} (ht : FitT t) (hL : Fit L) : ∀ k, k ≤ L.length → FitT (mergeE t (L.take k)) ∧ ∀ q, findE (mergeE t (L.take k)) q = seeT t (L.take k) q
  | 0, _ => by
    refine ⟨by simpa [mergeE] using ht, fun q => ?_⟩
    simp [mergeE, seeT, findE, hid]
  | k + 1, hk => by
    obtain ⟨e, he⟩ : ∃ e, L[k]? = some e := ⟨_, List.getElem?_eq_getElem (by omega)⟩
    obtain ⟨ih1, ih2⟩ := merge_view ht hL k (by omega)
    obtain ⟨hlt, hho⟩ := lay_step hL he
    have hee := hL.ent e (List.mem_of_getElem? he)
    have hrD : Rise (L.take k) := hL.rise.sublist (List.take_sublist _ _)
    have hne : ∀ x ∈ L.take k, x.path ≠ e.path := fun x hx => bl_ne (hlt x hx)
    have hm : mergeE t (L.take (k + 1)) = overE (mergeE t (L.take k)) e := by rw [take_next he]; simp [mergeE, List.foldl_append]
    rw [hm, take_next he]
    generalize L.take k = D at *
    have hhome : homeP (mergeE t D) e.path = true := by
      rw [homeP_iff]
      rcases hho with h0 | ⟨d, hd, hdp, hdk⟩
      · exact .inl h0
      · have h1 := ih2 d.path
        rw [seeT_some (rise_find hrD hd)] at h1
        have hd3 : d.kind ≠ 3 := by intro e3; rw [e3] at hdk; cases hdk
        rw [if_neg hd3] at h1
        exact .inr ⟨asT d, (find_mem h1).1, by rw [asT_path, hdp], by rw [asT_dir hdk]; rfl⟩
    refine ⟨fitT_over ih1 hee hhome, fun q => ?_⟩
    rw [find_over ih1 hee, ih2 q]
    by_cases hq : q = e.path
    · rw [if_pos hq, seeT_some (e := e) (by rw [find_snoc hne, if_pos hq])]
    · rw [if_neg hq]
      have hf : findE (D ++ [e]) q = findE D q := by rw [find_snoc hne, if_neg hq]
      cases hD : findE D q with
      | some x =>
        have hx := find_mem hD
        have hb := not_below_of_less (hlt x hx.1)
        rw [hx.2] at hb
        rw [hb, Bool.and_false, if_neg (by simp), seeT_some hD, seeT_some (hf.trans hD)]
      | none =>
        rw [seeT_none hD, seeT_none (hf.trans hD), hid_snoc]
        cases (!decide (e.kind = 2)) && belowB q e.path <;> cases hid D q <;> simp
theorem merge_fit {t L : List En} (ht : FitT t) (hL : Fit L) : FitT (mergeE t L) := by
  have := (merge_view ht hL L.length (Nat.le_refl _)).1
  rwa [List.take_length] at this
theorem merge_find {t L : List En} (ht : FitT t) (hL : Fit L) (q : Bs) : findE (mergeE t L) q = seeT t L q := by
  have := (merge_view ht hL L.length (Nat.le_refl _)).2 q
  rwa [List.take_length] at this

end Go.Proofs.YtejipahfodhmjaaGreat

namespace Go.Proofs.YtejipahfodhmjaaGreat
set_option linter.unusedVariables false

def hideAt (es : List En) (q : Bs) : Bool := (findE es q).any fun e => !decide (e.kind = 2)
def rankE (es : List En) (q : Bs) : Int :=
  match findE es q with
  | some e => if e.kind = 3 ∨ e.kind = 1 then 2 else if e.kind = 4 then 1 else 0
  | none => 0
def overN (es : List En) (ups : List Bs) : Int := if ups.any (fun u => decide (rankE es u = 2)) then 2 else if ups.any (fun u => decide (rankE es u = 1)) then 1 else 0
theorem rank_none {es : List En} {q : Bs} (h : findE es q = none) : rankE es q = 0 := by simp [rankE, h]
theorem rank_two {es : List En} {q : Bs} {e : En} (h : findE es q = some e) (hk : e.kind = 3 ∨ e.kind = 1) : rankE es q = 2 := by simp only [rankE, h]; rw [if_pos hk]
theorem rank_one {es : List En} {q : Bs} {e : En} (h : findE es q = some e) (hk : e.kind = 4) : rankE es q = 1 := by simp [rankE, h, hk]
theorem rank_dir {es : List En} {q : Bs} {e : En} (h : findE es q = some e) (h1 : e.kind ≠ 1) (h3 : e.kind ≠ 3) (h4 : e.kind ≠ 4) : rankE es q = 0 := by simp [rankE, h, h1, h3, h4]
theorem rank_hide {es : List En} (h : Right es) (q : Bs) : hideAt es q = decide (rankE es q ≠ 0) := by
  cases hf : findE es q with
  | none => simp [hideAt, rankE, hf]
  | some e =>
    have he := (find_mem hf).1
    rcases ent_kinds (h.ent e he) with hk | hk | hk | hk <;> simp [hideAt, rankE, hf, hk]
theorem rank_cases (es : List En) (q : Bs) : rankE es q = 0 ∨ rankE es q = 1 ∨ rankE es q = 2 := by
  unfold rankE
  split
  · split
    · exact Or.inr (Or.inr rfl)
    · split
      · exact Or.inr (Or.inl rfl)
      · exact Or.inl rfl
  · exact Or.inl rfl
theorem over_cases (es : List En) (ups : List Bs) : overN es ups = 0 ∨ overN es ups = 1 ∨ overN es ups = 2 := by
  unfold overN
  split
  · exact Or.inr (Or.inr rfl)
  · split
    · exact Or.inr (Or.inl rfl)
    · exact Or.inl rfl
theorem over_zero {es : List En} {ups : List Bs} : overN es ups ≠ 0 ↔ ∃ u ∈ ups, rankE es u ≠ 0 := by
  unfold overN
  constructor
  · intro h
    split at h
    · rename_i h2
      obtain ⟨u, hu, hr⟩ := List.any_eq_true.1 h2
      exact ⟨u, hu, by have := of_decide_eq_true hr; omega⟩
    · split at h
      · rename_i h2
        obtain ⟨u, hu, hr⟩ := List.any_eq_true.1 h2
        exact ⟨u, hu, by have := of_decide_eq_true hr; omega⟩
      · exact absurd rfl h
  · rintro ⟨u, hu, hr⟩
    rcases rank_cases es u with h | h | h
    · exact absurd h hr
    · split
      · omega
      · rw [if_pos (List.any_eq_true.2 ⟨u, hu, decide_eq_true h⟩)]; omega
    · rw [if_pos (List.any_eq_true.2 ⟨u, hu, decide_eq_true h⟩)]; omega
theorem over_take_two {es : List En} {ups : List Bs} {k : Nat} {u : Bs} (hu : ups[k]? = some u) (h : rankE es u = 2) : overN es ups = 2 := by
  unfold overN
  rw [if_pos (List.any_eq_true.2 ⟨u, List.mem_of_getElem? hu, decide_eq_true h⟩)]
theorem take_at {α : Type} {l : List α} {k : Nat} {x : α} (h : l[k]? = some x) : l.take (k + 1) = l.take k ++ [x] := by rw [List.take_add_one, h]; rfl
theorem over_take {es : List En} {ups : List Bs} {k : Nat} {u : Bs} (hu : ups[k]? = some u) (h2 : overN es (ups.take k) ≠ 2) (h : rankE es u ≠ 2) : overN es (ups.take (k + 1)) = if rankE es u = 1 then 1 else overN es (ups.take k) := by
  rw [take_at hu]
  unfold overN at h2 ⊢
  simp only [List.any_append, List.any_cons, List.any_nil, Bool.or_false, h, decide_false]
  split at h2
  · exact absurd rfl h2
  · rename_i h3
    simp only [h3, Bool.false_eq_true, if_false]
    by_cases h4 : rankE es u = 1
    · simp [h4]
    · simp [h4]
theorem over_take_ne {es : List En} {ups : List Bs} {k : Nat} {u : Bs} (hu : ups[k]? = some u) (h2 : overN es (ups.take k) ≠ 2) (h : rankE es u ≠ 2) : overN es (ups.take (k + 1)) ≠ 2 := by
  rw [over_take hu h2 h]
  split
  · omega
  · exact h2
end Go.Proofs.YtejipahfodhmjaaGreat

namespace Go.Proofs.YtejipahfodhmjaaGreat
open Go.ChangeShapes Go.WideShapes Go.ChangeAt Go.RowKit
set_option linter.unusedVariables false

def Box4 (w : World) (b : Nat) (u0 u1 u2 u3 : Value) : Prop := Four w b u0 u1 u2 u3 ∧ ∀ i, w.frozen? ⟨b, i, none⟩ = false
theorem Box4.new (w : World) (u0 u1 u2 u3 : Value) (t : TypeId) : Box4 (w.alloc (.cells #[u0, u1, u2, u3] t)) w.heap.size u0 u1 u2 u3 := ⟨Four.new w u0 u1 u2 u3 t, fun i => by simp⟩
theorem Box4.below {w w' : World} {b : Nat} {u0 u1 u2 u3 : Value} (h : Box4 w b u0 u1 u2 u3) (hk : Below w.heap.size w w') : Box4 w' b u0 u1 u2 u3 :=
  ⟨h.1.below hk, fun i => (hk.frozen (p := ⟨b, i, none⟩) h.1.lt).trans (h.2 i)⟩

set_option maxHeartbeats 400000 in
theorem szInt64S_fits (a : Option Addr) (n c : Nat) (left : Int) (w : World) (h0 : left ≤ 1048576) (hn : (n : Int) ≤ left) :
    Calls Tryz.prog 146 #[.slice a n c, .int .i64 left] w fun e w' => e = .returned (.int .i64 (left - n)) ∧ w' = w := by
  have hb : ¬ (left - (n : Int)) < 0 := by omega
  go_enter Tryz.func146, Tryz.ntmps146
  go_wp2
  go_ret
  exact ⟨rfl, rfl⟩
set_option maxHeartbeats 400000 in
theorem szInt64S_not (a : Option Addr) (n c : Nat) (left : Int) (w : World) (h0 : 0 ≤ left) (hl : left ≤ 1048576) (hm : (n : Int) ≤ 9223372036854775807) (hn : left < (n : Int)) :
    Calls Tryz.prog 146 #[.slice a n c, .int .i64 left] w fun e w' => e = .returned (.int .i64 (-1)) ∧ w' = w := by
  have hb : (left - (n : Int)) < 0 := by omega
  go_enter Tryz.func146, Tryz.ntmps146
  go_wp2
  go_ret
  exact ⟨rfl, rfl⟩

set_option maxHeartbeats 400000 in
theorem szEntry_fits (s : ByteArray) (k z : Int) (a : Option Addr) (n c : Nat) (left : Int) (w : World) (h0 : left ≤ 1048576) (hn : (s.size : Int) + (n : Int) ≤ left) :
    Calls Tryz.prog 108 #[.agg #[.string s, .int .i64 k, .int .i64 z, .slice a n c], .int .i64 left] w fun e w' => e = .returned (.int .i64 (left - s.size - n)) ∧ Below w.heap.size w w' := by
  have hb1 : ¬ (left - (s.size : Int)) < 0 := by omega
  have hb : ¬ (left - (s.size : Int) - (n : Int)) < 0 := by omega
  go_enter Tryz.func108, Tryz.ntmps108
  go_wp2_with fail
  refine (szInt64S_fits a n c _ _ (by omega) (by omega)).mono ?_
  rintro e w1 ⟨rfl, rfl⟩
  go_wp2_with fail
  go_ret
  exact ⟨rfl, below_alloc _ _⟩
set_option maxHeartbeats 400000 in
theorem szEntry_not (s : ByteArray) (k z : Int) (a : Option Addr) (n c : Nat) (left : Int) (w : World) (h0 : 0 ≤ left) (hl : left ≤ 1048576) (hs : (s.size : Int) ≤ 9223372036854775807) (hm : (n : Int) ≤ 9223372036854775807) (hn : left < (s.size : Int) + (n : Int)) :
    Calls Tryz.prog 108 #[.agg #[.string s, .int .i64 k, .int .i64 z, .slice a n c], .int .i64 left] w fun e w' => e = .returned (.int .i64 (-1)) ∧ Below w.heap.size w w' := by
  by_cases h1 : left < (s.size : Int)
  · have hb1 : (left - (s.size : Int)) < 0 := by omega
    go_enter Tryz.func108, Tryz.ntmps108
    go_wp2_with fail
    go_ret
    exact ⟨rfl, below_alloc _ _⟩
  · have hb1 : ¬ (left - (s.size : Int)) < 0 := by omega
    go_enter Tryz.func108, Tryz.ntmps108
    go_wp2_with fail
    refine (szInt64S_not a n c _ _ (by omega) (by omega) hm (by omega)).mono ?_
    rintro e w1 ⟨rfl, rfl⟩
    go_wp2_with fail
    go_ret
    exact ⟨rfl, below_alloc _ _⟩

theorem toInt64S_own (a : Option Addr) (cap : Nat) (zs : List Int) (w : World) (h : Reads .i64 w a zs) (hl : zs.length ≤ 1048576) :
    Calls Tryz.prog 147 #[.slice a zs.length cap] w fun e w' => ∃ g, e = .returned (.slice (some ⟨g, 0, none⟩) zs.length zs.length) ∧ w.heap.size ≤ g ∧ w'.ownsRow w.heap.size 2 1 (.slice (some ⟨g, 0, none⟩) zs.length zs.length) zs.length (zs.map (Value.int .i64)) ∧ Below w.heap.size w w' := by
  refine (toInt64S_any a cap zs w h hl).mono ?_
  rintro e w' ⟨rfl, hr, hb⟩
  exact ⟨_, rfl, Nat.le_refl _, ownsRow_of_row hr (Nat.le_refl _) (by unfold maxLen; omega), hb⟩
set_option maxHeartbeats 800000 in
theorem toEntry_any (s : ByteArray) (k z : Int) (a : Option Addr) (c : Nat) (zs : List Int) (w : World) (h : Reads .i64 w a zs) (hl : zs.length ≤ 1048576) :
    Calls Tryz.prog 110 #[.agg #[.string s, .int .i64 k, .int .i64 z, .slice a zs.length c]] w fun e w' => ∃ g, e = .returned (.agg #[.string s, .int .i64 k, .int .i64 z, .slice (some ⟨g, 0, none⟩) zs.length zs.length]) ∧ w.heap.size ≤ g ∧ w'.ownsRow w.heap.size 2 1 (.slice (some ⟨g, 0, none⟩) zs.length zs.length) zs.length (zs.map (Value.int .i64)) ∧ Below w.heap.size w w' := by
  have HR := hide h
  clear h
  go_enter Tryz.func110, Tryz.ntmps110
  go_wp2_with fail
  have X1 := hide ((Box4.new (w.alloc (.cells #[.string s, .int .i64 k, .int .i64 z, .slice a zs.length c] 169)) (.string ⟨#[]⟩) (.int .i64 0) (.int .i64 0) (.slice none 0 0) 40).below (below_alloc _ (.cells #[.string s, .int .i64 k, .int .i64 z, .slice none 0 0] 40)))
  have X2 := hide (Box4.new ((w.alloc (.cells #[.string s, .int .i64 k, .int .i64 z, .slice a zs.length c] 169)).alloc (.cells #[.string ⟨#[]⟩, .int .i64 0, .int .i64 0, .slice none 0 0] 40)) (.string s) (.int .i64 k) (.int .i64 z) (.slice none 0 0) 40)
  have B0 := hide (below_next (below_next (below_alloc w (.cells #[.string s, .int .i64 k, .int .i64 z, .slice a zs.length c] 169)) (below_alloc _ (.cells #[.string ⟨#[]⟩, .int .i64 0, .int .i64 0, .slice none 0 0] 40))) (below_alloc _ (.cells #[.string s, .int .i64 k, .int .i64 z, .slice none 0 0] 40)))
  have hsz : (((w.alloc (.cells #[.string s, .int .i64 k, .int .i64 z, .slice a zs.length c] 169)).alloc (.cells #[.string ⟨#[]⟩, .int .i64 0, .int .i64 0, .slice none 0 0] 40)).alloc (.cells #[.string s, .int .i64 k, .int .i64 z, .slice none 0 0] 40)).heap.size = w.heap.size + 3 := by simp
  have h1 : (w.alloc (.cells #[.string s, .int .i64 k, .int .i64 z, .slice a zs.length c] 169)).heap.size = w.heap.size + 1 := by simp
  have h2 : ((w.alloc (.cells #[.string s, .int .i64 k, .int .i64 z, .slice a zs.length c] 169)).alloc (.cells #[.string ⟨#[]⟩, .int .i64 0, .int .i64 0, .slice none 0 0] 40)).heap.size = w.heap.size + 1 + 1 := by simp
  rw [h1] at X1
  rw [h2] at X2
  clear h1 h2
  generalize ((w.alloc (.cells #[.string s, .int .i64 k, .int .i64 z, .slice a zs.length c] 169)).alloc (.cells #[.string ⟨#[]⟩, .int .i64 0, .int .i64 0, .slice none 0 0] 40)).alloc (.cells #[.string s, .int .i64 k, .int .i64 z, .slice none 0 0] 40) = W at *
  have HZ := hide hsz
  clear hsz
  refine (toInt64S_own a c zs _ (HR.out.below B0.out) hl).mono ?_
  rintro e w1 ⟨g, rfl, hg, ho, b1⟩
  obtain ⟨⟨q0, q1, q2, q3⟩, qf⟩ := X1.out.below b1
  obtain ⟨⟨r0, r1, r2, r3⟩, rf⟩ := X2.out.below b1
  have qf0 := qf 0
  have qf1 := qf 1
  have qf2 := qf 2
  have qf3 := qf 3
  have rf3 := rf 3
  have hg2 : w.heap.size + 3 ≤ g := by have := HZ.out; omega
  have HO := hide ho
  have HB := hide (below_next B0.out b1)
  clear ho b1 X1 X2 B0 hg qf rf
  go_wp2_with fail
  have hk : Kept (fun b => b = w.heap.size + 1 ∨ b = w.heap.size + 1 + 1) w1 (((((w1.setCell ⟨w.heap.size + 1 + 1, 3, none⟩ (.slice (some ⟨g, 0, none⟩) zs.length zs.length)).setCell ⟨w.heap.size + 1, 0, none⟩ (.string s)).setCell ⟨w.heap.size + 1, 1, none⟩ (.int .i64 k)).setCell ⟨w.heap.size + 1, 2, none⟩ (.int .i64 z)).setCell ⟨w.heap.size + 1, 3, none⟩ (.slice (some ⟨g, 0, none⟩) zs.length zs.length)) :=
    Kept.setCell (p := ⟨w.heap.size + 1, 3, none⟩) (Kept.setCell (p := ⟨w.heap.size + 1, 2, none⟩) (Kept.setCell (p := ⟨w.heap.size + 1, 1, none⟩) (Kept.setCell (p := ⟨w.heap.size + 1, 0, none⟩) (Kept.setCell (p := ⟨w.heap.size + 1 + 1, 3, none⟩) (Kept.refl _ _) (fun _ => .inr rfl) _) (fun _ => .inl rfl) _) (fun _ => .inl rfl) _) (fun _ => .inl rfl) _) (fun _ => .inl rfl) _
  refine bodyPost_ret (v := .agg #[.string s, .int .i64 k, .int .i64 z, (.slice (some ⟨g, 0, none⟩) zs.length zs.length)]) (by simp [results, Tryz.results110, go_sem, q0, q1, q2, q3]) rfl ⟨g, rfl, by omega, ?_, HB.out.trans (hk.below HB.out.size (fun k hk hS => by omega))⟩
  exact ownsRow_mono (ownsRow_kept HO.out hk (fun b hb hS => by simp only [Value.ownBlock, Option.some.injEq] at hb; omega)) (by have := HZ.out; omega)

set_option maxHeartbeats 400000 in
theorem eqEntry_same (s : ByteArray) (k z : Int) (a b : Option Addr) (ca cb : Nat) (zs : List Int) (w : World) (ha : Reads .i64 w a zs) (hb : Reads .i64 w b zs) (hl : zs.length ≤ 1048576) :
    Calls Tryz.prog 112 #[.agg #[.string s, .int .i64 k, .int .i64 z, .slice a zs.length ca], .agg #[.string s, .int .i64 k, .int .i64 z, .slice b zs.length cb]] w fun e w' => e = .returned (.bool true) ∧ Below w.heap.size w w' := by
  have HA := hide ha
  have HB := hide hb
  clear ha hb
  have B1 := hide (below_next (below_alloc w (.cells #[.string s, .int .i64 k, .int .i64 z, .slice a zs.length ca] 40)) (below_alloc _ (.cells #[.string s, .int .i64 k, .int .i64 z, .slice b zs.length cb] 40)))
  go_enter Tryz.func112, Tryz.ntmps112
  go_wp2_with fail
  refine (eqInt64S_b a b ca cb zs _ (HA.out.below B1.out) (HB.out.below B1.out) hl).mono ?_
  rintro e w1 ⟨rfl, b1⟩
  have B2 := hide (below_next B1.out b1)
  clear b1 B1
  go_wp2_with fail
  go_ret
  exact ⟨rfl, B2.out⟩

theorem trod_four {H : Type} {enc : TypeId × Value → H} {P : Program} {w : World} {base : Nat} {spare : Nat → Bool} {held : Bool} {t : TypeId} {f0 f1 f2 f3 : Field} {fuel : Nat} {cs : List Value} {x : DataW H × List MemPlace}
    (he : P.underlying t = some (.struct #[f0, f1, f2, f3])) (ce : P.cellsOf t = 4) (o0 : f0.offset = 0) (o1 : f1.offset = 1) (o2 : f2.offset = 2) (o3 : f3.offset = 3)
    (c0 : P.cellsOf f0.type = 1) (c1 : P.cellsOf f1.type = 1) (c2 : P.cellsOf f2.type = 1) (c3 : P.cellsOf f3.type = 1) (h : DataW.trod enc P w base spare held fuel t cs = some x) :
    ∃ (v0 v1 v2 v3 : Value) (n : Nat) (y0 y1 y2 y3 : DataW H × List MemPlace), cs = [v0, v1, v2, v3] ∧ DataW.trod enc P w base spare held n f0.type [v0] = some y0 ∧ DataW.trod enc P w base spare held n f1.type [v1] = some y1 ∧
      DataW.trod enc P w base spare held n f2.type [v2] = some y2 ∧ DataW.trod enc P w base spare held n f3.type [v3] = some y3 := by
  obtain ⟨xs, k, hk, hxy, hlen, hxl, hf⟩ := DataW.trod_struct he h
  rw [ce] at hlen
  match xs, hxl, cs, hlen with
  | [y0, y1, y2, y3], _, [v0, v1, v2, v3], _ =>
    have g0 := hf 0 f0 rfl
    have g1 := hf 1 f1 rfl
    have g2 := hf 2 f2 rfl
    have g3 := hf 3 f3 rfl
    simp [o0, o1, o2, o3, c0, c1, c2, c3] at g0 g1 g2 g3
    exact ⟨v0, v1, v2, v3, k, y0, y1, y2, y3, rfl, g0, g1, g2, g3⟩
theorem reads_of_rowE {W : World} {x : Addr} {l c : Nat} {zs : List Int} (hz : zs.length = c) (hl : l ≤ c) (hm : c ≤ maxLen) (hcell : ∀ i, i < zs.length → W.cell? (x.add i) = some (.int .i64 (zs.getD i 0))) (hwz : ∀ n ∈ zs, (Lit.int .i64 n).wf = true) :
    ∃ ys : List Int, ys.length = l ∧ Reads .i64 W (some x) ys ∧ (∀ z ∈ ys, (Lit.int .i64 z).wf = true) ∧ ys.length ≤ maxLen := by
  have hlen : (zs.take l).length = l := by simp; omega
  refine ⟨zs.take l, hlen, ?_, fun z hz' => hwz z (List.mem_of_mem_take hz'), by omega⟩
  intro hne
  have h0 : 0 < l := by
    rcases Nat.eq_zero_or_pos l with h | h
    · subst h; exact absurd rfl hne
    · exact h
  obtain ⟨b, off, spot⟩ := x
  have hc := hcell 0 (by omega)
  have hspot : spot = none := by simpa [Addr.add] using World.cell?_spot hc
  subst hspot
  refine ⟨b, off, rfl, World.block_lt_of_cell? W _ (by simpa [Addr.add] using hc), fun i hi => ?_⟩
  have := hcell i (by omega)
  have e : (zs.take l).getD i 0 = zs.getD i 0 := by
    have h2 : i < l := by omega
    simp [List.getD_eq_getElem?_getD, h2]
  rw [e]
  have ea : (⟨b, off, none⟩ : Addr).add i = ⟨b, off + i, none⟩ := by unfold Addr.add; split <;> simp_all
  rw [ea] at this
  exact this

theorem ints_of_trodE {H : Type} {enc : TypeId × Value → H} {W : World} {a : Option Addr} {n c fuel : Nat} {x : DataW H × List MemPlace}
    (h : DataW.trod enc Tryz.prog W 0 (fun _ => true) true fuel 31 [.slice a n c] = some x) : ∃ zs : List Int, zs.length = n ∧ Reads .i64 W a zs ∧ (∀ z ∈ zs, (Lit.int .i64 z).wf = true) ∧ zs.length ≤ maxLen := by
  rcases open_ints Tryz.underlying31 Tryz.underlying2 (by kernel_rfl) h with ⟨hcs, _⟩ | ⟨x, l, c, zs, hcs, _, hl, hm, hz, _, hcell, hwz⟩
  · simp at hcs
    obtain ⟨rfl, rfl, rfl⟩ := hcs
    exact ⟨[], rfl, fun h => absurd rfl h, fun z hz => by simp at hz, Nat.zero_le _⟩
  · simp at hcs
    obtain ⟨rfl, rfl, rfl⟩ := hcs
    exact reads_of_rowE (by simpa using hz) hl hm hcell hwz
structure InE (W : World) (e : En) (a : Option Addr) : Prop where
  rd : Reads .i64 W a e.chunks
  kd : (Lit.int .i64 e.kind).wf = true
  sz : (Lit.int .i64 e.size).wf = true
  ch : ∀ z ∈ e.chunks, (Lit.int .i64 z).wf = true
  pl : e.path.length ≤ maxLen
  cl : e.chunks.length ≤ maxLen
theorem entry_of_trod {H : Type} {enc : TypeId × Value → H} {W : World} {fuel : Nat} {cs : List Value} {x : DataW H × List MemPlace}
    (h : DataW.trod enc Tryz.prog W 0 (fun _ => true) true fuel 169 cs = some x) : ∃ (e : En) (a : Option Addr) (c : Nat), cs = [.string (str e.path), .int .i64 e.kind, .int .i64 e.size, .slice a e.chunks.length c] ∧ InE W e a := by
  obtain ⟨v0, v1, v2, v3, n, y0, y1, y2, y3, rfl, g0, g1, g2, g3⟩ := trod_four Tryz.underlying169 (by kernel_rfl) rfl rfl rfl rfl (by kernel_rfl) (by kernel_rfl) (by kernel_rfl) (by kernel_rfl) h
  obtain ⟨s, hs, _, hsl⟩ := DataW.trod_string Tryz.underlying9 g0
  obtain ⟨k, hk, _, hkw⟩ := DataW.trod_int Tryz.underlying2 g1
  obtain ⟨z, hz, _, hzw⟩ := DataW.trod_int Tryz.underlying2 g2
  obtain ⟨a1, n1, k1, e1⟩ : ∃ a1 n1 k1, v3 = .slice a1 n1 k1 := by
    rcases open_ints Tryz.underlying31 Tryz.underlying2 (by kernel_rfl) g3 with ⟨hcs, _⟩ | ⟨x, l, c, zs, hcs, _⟩
    · simp at hcs; exact ⟨_, _, _, hcs⟩
    · simp at hcs; exact ⟨_, _, _, hcs⟩
  rw [e1] at g3
  obtain ⟨zs, rfl, hr, hu, hml⟩ := ints_of_trodE g3
  simp only [List.cons.injEq, and_true] at hs hk hz
  subst hs hk hz e1
  exact ⟨⟨s.data.toList, k, z, zs⟩, a1, k1, by simp [str_of], ⟨hr, hkw, hzw, hu, by rw [← Lib.size_eq]; exact hsl, hml⟩⟩

end Go.Proofs.YtejipahfodhmjaaGreat

namespace Go.Proofs.YtejipahfodhmjaaGreat
open Go.RowKit Go.Maps
set_option linter.unusedVariables false
attribute [local go_sem ↓] Go.wp_at_zero Go.wp_at_succ

theorem seeLaidOut : laidOutB Tryz.prog = true := by kernel_rfl
theorem spotLaw : Keyed Tryz.prog 86 := Keyed.of_law (deep_law_gate seeLaidOut (by decide +kernel) (by decide +kernel) (by kernel_rfl) (by kernel_rfl))
def spotV (i : Nat) (p : Bs) : Value := .agg #[.int .i64 i, .string (str p)]
def spotK (i : Nat) (p : Bs) : Lit := .string (keyBytes [.int .i64 i, .string (str p).data.toList])
theorem spotType : Tryz.prog.keyType 86 = true := by kernel_rfl
theorem spotCells : Tryz.prog.cellsOf 86 = 2 := by kernel_rfl
theorem intCells : Tryz.prog.cellsOf 3 = 1 := by kernel_rfl
theorem strCells : Tryz.prog.cellsOf 9 = 1 := by kernel_rfl
theorem nTypes : ∃ m, Tryz.prog.types.size + 1 = m + 1 + 1 := ⟨Tryz.prog.types.size - 1, by have : 1 ≤ Tryz.prog.types.size := (by decide +kernel); omega⟩
theorem i64_nat {i : Nat} (h : i ≤ 100) : (Lit.int .i64 (i : Int)).wf = true := by
  simp [Lit.wf, IntKind.min, IntKind.max, IntKind.signed, IntKind.bits]; omega
theorem spot_key {i : Nat} {p : Bs} (hi : i ≤ 100) (hp : p.length ≤ 1048576) : keyOf Tryz.prog 86 (spotV i p) = some (spotK i p) := by
  have hs : (str p).size ≤ maxLen := by rw [str_size]; unfold maxLen; omega
  have hw := i64_nat hi
  obtain ⟨m, hm⟩ := nTypes
  unfold keyOf spotV spotK
  rw [Tryz.underlying86]
  simp only [spotType, Value.formed, Tryz.underlying86, spotCells, Value.cells]
  rw [hm]
  simp [Program.keyLits, Tryz.underlying86, spotCells, Tryz.underlying3, Tryz.underlying9, intCells, strCells, hs, hw]
theorem spotV_inj {i j : Nat} {p q : Bs} (h : spotV i p = spotV j q) : i = j ∧ p = q := by
  unfold spotV at h
  simp only [Value.agg.injEq, Array.mk.injEq, List.cons.injEq, Value.int.injEq, Value.string.injEq, true_and, and_true] at h
  refine ⟨by omega, ?_⟩
  have := congrArg (fun s : ByteArray => s.data.toList) h.2
  simpa [str_data] using this
theorem spotK_inj {i j : Nat} {p q : Bs} (hi : i ≤ 100) (hj : j ≤ 100) (hp : p.length ≤ 1048576) (hq : q.length ≤ 1048576) (h : spotK i p = spotK j q) : i = j ∧ p = q := by
  have h1 := spot_key hi hp
  have h2 := spot_key hj hq
  rw [← h] at h2
  exact spotV_inj (spotLaw.inj h1 h2)

def RVs (v : Value) : Option (DataW Value × List MemPlace) := some (.held v, [])
def itV (e : En) (a : Option Addr) (c : Nat) : Value := .agg #[.int .i64 e.size, .slice a e.chunks.length c, .string (str e.path), .int .i64 e.kind]
theorem zeroIt (w : World) : (zeroValue 91).run Tryz.prog w = .ok (.agg #[.int .i64 0, .slice none 0 0, .string ⟨#[]⟩, .int .i64 0]) w := by kernel_rfl

def SeeM (w0 w : World) (b N : Nat) (S : Nat → Bs → Option En) : Prop :=
  ∃ (Dt : DataW Value) (A : Nat → Bs → Option Addr) (C : Nat → Bs → Nat), w.ownsMap Tryz.prog 86 RVs b N Dt ∧
    (∀ i p, i ≤ 100 → p.length ≤ 1048576 → has Dt (spotK i p) = (S i p).isSome) ∧
    (∀ i p e, i ≤ 100 → p.length ≤ 1048576 → S i p = some e → (∀ z, Dt.atKey (spotK i p) z = .held (itV e (A i p) (C i p))) ∧ Reads .i64 w0 (A i p) e.chunks) ∧
    (∀ kl, has Dt kl = true → ∃ i p, i ≤ 100 ∧ p.length ≤ 1048576 ∧ kl = spotK i p)
theorem SeeM.lt {w0 w : World} {b N : Nat} {S : Nat → Bs → Option En} (h : SeeM w0 w b N S) : b < w.heap.size := by
  obtain ⟨Dt, A, C, h1, _⟩ := h
  exact h1.lt
theorem SeeM.kept {Q : Nat → Prop} {w0 w w' : World} {b N : Nat} {S : Nat → Bs → Option En} (h : SeeM w0 w b N S) (hk : Kept Q w w') (hb : ¬ Q b) : SeeM w0 w' b N S := by
  obtain ⟨Dt, A, C, h1, h2⟩ := h
  have hlt := h1.lt
  obtain ⟨es, clock, hh, r⟩ := h1
  exact ⟨Dt, A, C, ⟨es, clock, (hk.block b hlt hb).trans hh, r⟩, h2⟩
theorem SeeM.below {w0 w w' : World} {b N : Nat} {S : Nat → Bs → Option En} (h : SeeM w0 w b N S) (hk : Below w.heap.size w w') : SeeM w0 w' b N S :=
  h.kept (Q := fun _ => False) (Kept.of_below hk) id
theorem SeeM.congr {w0 w : World} {b N : Nat} {S S' : Nat → Bs → Option En} (h : SeeM w0 w b N S) (hS : ∀ i p, S i p = S' i p) : SeeM w0 w b N S' := by
  have : S = S' := funext fun i => funext fun p => hS i p
  rw [← this]; exact h
theorem SeeM.made (w0 w : World) : SeeM w0 (w.alloc (.map #[] 0)) w.heap.size 0 (fun _ _ => none) := by
  refine ⟨.map [], fun _ _ => none, fun _ _ => 0, World.ownsMap_made _ _ _ _, ?_, ?_, ?_⟩
  · intro i p _ _
    simp [has]
  · intro i p e _ _ h
    simp at h
  · intro kl h
    simp [has] at h
theorem see_grown {w w' : World} {b : Nat} (h : w.grownBy w' (some b)) : Kept (fun x => x = b) w w' :=
  ⟨h.os, h.tape, h.output, h.size, fun k hk hn => h.block k hk (fun e => hn (by simpa using e))⟩
theorem spot_isKey {i : Nat} {p : Bs} (hi : i ≤ 100) (hp : p.length ≤ 1048576) : WideAt.IsKeyLit (spotK i p) := spotLaw.key (spot_key hi hp)

theorem SeeM.put {w0 w : World} {b N i : Nat} {p : Bs} {S : Nat → Bs → Option En} {e : En} {a : Option Addr} {c : Nat} (h : SeeM w0 w b N S) (hi : i ≤ 100) (hp : p.length ≤ 1048576) (hr : Reads .i64 w0 a e.chunks) :
    ∃ Dt, w.ownsMap Tryz.prog 86 RVs b N Dt ∧ ∀ w', w'.ownsMap Tryz.prog 86 RVs b (N + 1) (Dt.put (spotK i p) (.held (itV e a c))) → SeeM w0 w' b (N + 1) (fun j q => if j = i ∧ q = p then some e else S j q) := by
  obtain ⟨Dt, A, C, h1, h2, h3, h4⟩ := h
  refine ⟨Dt, h1, fun w' ho => ?_⟩
  refine ⟨_, fun j q => if j = i ∧ q = p then a else A j q, fun j q => if j = i ∧ q = p then c else C j q, ho, fun j q hj hq => ?_, fun j q x hj hq hx => ?_, fun kl hkl => ?_⟩
  · by_cases e1 : j = i ∧ q = p
    · obtain ⟨rfl, rfl⟩ := e1
      rw [has_put_same h1.isMap (spot_isKey hj hq)]
      simp
    · have hne : spotK j q ≠ spotK i p := fun hk => e1 (spotK_inj hj hi hq hp hk)
      rw [has_put_other (by simpa using hne), h2 j q hj hq]
      simp [e1]
  · by_cases e1 : j = i ∧ q = p
    · simp only [if_pos e1] at hx ⊢
      cases hx
      obtain ⟨rfl, rfl⟩ := e1
      exact ⟨fun z => atKey_put_same h1.isMap (spot_isKey hj hq) _ _, hr⟩
    · have hne : spotK j q ≠ spotK i p := fun hk => e1 (spotK_inj hj hi hq hp hk)
      simp only [if_neg e1] at hx ⊢
      exact ⟨fun z => by rw [atKey_put_other (by simpa using hne)]; exact (h3 j q x hj hq hx).1 z, (h3 j q x hj hq hx).2⟩
  · by_cases e1 : kl = spotK i p
    · exact ⟨i, p, hi, hp, e1⟩
    · rw [has_put_other (by simpa using e1)] at hkl
      exact h4 kl hkl

theorem SeeM.yes {w0 w : World} {b N i : Nat} {p : Bs} {S : Nat → Bs → Option En} {e : En} (h : SeeM w0 w b N S) (hi : i ≤ 100) (hp : p.length ≤ 1048576) (he : S i p = some e) :
    ∃ a c, (Instr.lookup 83 (.map (some b)) (spotV i p) true).run Tryz.prog w = .ok (.tuple #[itV e a c, .bool true]) w ∧ (Instr.lookup 83 (.map (some b)) (spotV i p) false).run Tryz.prog w = .ok (itV e a c) w ∧ Reads .i64 w0 a e.chunks := by
  obtain ⟨Dt, A, C, h1, h2, h3, h4⟩ := h
  refine ⟨A i p, C i p, ?_, ?_, (h3 i p e hi hp he).2⟩
  · obtain ⟨v, ps, hrun, hv⟩ := h1.look_ok spotLaw Tryz.underlying83 (zeroIt w) (zd := .held (.agg #[.int .i64 0, .slice none 0 0, .string ⟨#[]⟩, .int .i64 0])) (zp := []) rfl (spot_key hi hp)
    simp only [RVs, Option.some.injEq, Prod.mk.injEq, (h3 i p e hi hp he).1] at hv
    have e1 := hv.1
    simp only [DataW.held.injEq] at e1
    rw [hrun, h2 i p hi hp, he]
    simp [e1]
  · obtain ⟨v, ps, hrun, hv⟩ := h1.lookup spotLaw Tryz.underlying83 (zeroIt w) (zd := .held (.agg #[.int .i64 0, .slice none 0 0, .string ⟨#[]⟩, .int .i64 0])) (zp := []) rfl (spot_key hi hp)
    simp only [RVs, Option.some.injEq, Prod.mk.injEq, (h3 i p e hi hp he).1] at hv
    have e1 := hv.1
    simp only [DataW.held.injEq] at e1
    rw [hrun]
    simp [e1]
theorem SeeM.no {w0 w : World} {b N i : Nat} {p : Bs} {S : Nat → Bs → Option En} (h : SeeM w0 w b N S) (hi : i ≤ 100) (hp : p.length ≤ 1048576) (he : S i p = none) :
    (Instr.lookup 83 (.map (some b)) (spotV i p) true).run Tryz.prog w = .ok (.tuple #[.agg #[.int .i64 0, .slice none 0 0, .string ⟨#[]⟩, .int .i64 0], .bool false]) w := by
  obtain ⟨Dt, A, C, h1, h2, h3, h4⟩ := h
  obtain ⟨v, ps, hrun, hv⟩ := h1.look_ok spotLaw Tryz.underlying83 (zeroIt w) (zd := .held (.agg #[.int .i64 0, .slice none 0 0, .string ⟨#[]⟩, .int .i64 0])) (zp := []) rfl (spot_key hi hp)
  have hh : has Dt (spotK i p) = false := by rw [h2 i p hi hp, he]; rfl
  rw [atKey_of_not_has hh] at hv
  simp only [RVs, Option.some.injEq, Prod.mk.injEq] at hv
  have e1 := hv.1
  simp only [DataW.held.injEq] at e1
  rw [hrun, hh, e1]
theorem wpList_lookS {P : Program} {w : World} {ops : Array Oper} {rest : List Oper} {o : Oper} {a : Act} {Q : Exit → Act → World → Prop} (hg : o.guard = none) (m x : Operand) (t : TypeId) (c : Bool) (hop : o.op = Op.lookup t m x c)
    (vm vx v : Value) (hm : a.eval m = vm) (hx : a.eval x = vx) (hrun : (Instr.lookup t vm vx c).run P w = .ok v w) (h : wpList P ops Q rest (a.put o.dst v) w) : wpList P ops Q (o :: rest) a w := by
  refine wpList_plain hg fun K' hK' => ?_
  unfold Oper.wp
  simp [execOp, hop, hm, hx, hrun, Result.andThen]
  exact hK' _ _ h
end Go.Proofs.YtejipahfodhmjaaGreat

namespace Go.Proofs.YtejipahfodhmjaaGreat
open Go.RowKit Go.Maps
set_option linter.unusedVariables false
attribute [local go_sem ↓] Go.wp_at_zero Go.wp_at_succ

def RdL (w : World) (a : Option Addr) (ls : List (List En)) : Prop :=
  ls ≠ [] → ∃ (b off : Nat) (A : Nat → Option Addr) (C : Nat → Nat), a = some ⟨b, off, none⟩ ∧ b < w.heap.size ∧ ∀ i es, ls[i]? = some es → w.cell? ⟨b, off + i, none⟩ = some (.slice (A i) es.length (C i)) ∧ RdE w (A i) es
theorem RdL.below {w w' : World} {a : Option Addr} {ls : List (List En)} (h : RdL w a ls) (hk : Below w.heap.size w w') : RdL w' a ls := by
  intro hz
  obtain ⟨b, off, A, C, e, hb, hc⟩ := h hz
  refine ⟨b, off, A, C, e, Nat.lt_of_lt_of_le hb hk.size, fun i es hx => ?_⟩
  obtain ⟨c0, r⟩ := hc i es hx
  exact ⟨(hk.cell (p := ⟨b, off + i, none⟩) hb).trans c0, r.below hk⟩
theorem RdL.at {w : World} {a : Option Addr} {ls : List (List En)} (h : RdL w a ls) {k : Nat} (hk : k < ls.length) :
    ∃ b off es x c, a = some ⟨b, off, none⟩ ∧ b < w.heap.size ∧ ls[k]? = some es ∧ w.cell? ⟨b, off + k, none⟩ = some (.slice x es.length c) ∧ RdE w x es := by
  obtain ⟨b, off, A, C, e, hb, hc⟩ := h (by intro e; simp [e] at hk)
  have hx : ls[k]? = some ls[k] := List.getElem?_eq_getElem hk
  obtain ⟨c0, r⟩ := hc k _ hx
  exact ⟨b, off, ls[k], A k, C k, e, hb, hx, c0, r⟩
def seeL (ls : List (List En)) (i : Nat) (p : Bs) : Option En := (ls[i]?).bind fun es => findE es p
theorem seeL_nil (i : Nat) (p : Bs) : seeL [] i p = none := by simp [seeL]
theorem seeL_snoc_nil (D : List (List En)) (i : Nat) (p : Bs) : seeL (D ++ [[]]) i p = seeL D i p := by
  unfold seeL
  rcases Nat.lt_trichotomy i D.length with h | h | h
  · rw [List.getElem?_append_left h]
  · subst h; simp [findE]
  · rw [List.getElem?_eq_none (by simp; omega), List.getElem?_eq_none (by omega)]
theorem seeL_step {D : List (List En)} {es : List En} {j : Nat} {e : En} (he : es[j]? = some e) (hn : ∀ x ∈ es.take j, x.path ≠ e.path) (i : Nat) (p : Bs) :
    (if i = D.length ∧ p = e.path then some e else seeL (D ++ [es.take j]) i p) = seeL (D ++ [es.take (j + 1)]) i p := by
  unfold seeL
  rcases Nat.lt_trichotomy i D.length with h | h | h
  · rw [List.getElem?_append_left h, List.getElem?_append_left h, if_neg (fun hh => by omega)]
  · subst h
    simp only [List.getElem?_append_right (Nat.le_refl _), Nat.sub_self, List.getElem?_cons_zero, Option.bind_some, true_and]
    rw [take_at he, find_snoc hn]
  · rw [List.getElem?_eq_none (by simp; omega), List.getElem?_eq_none (by simp; omega), if_neg (fun hh => by omega)]
theorem rise_new {es : List En} (h : Rise es) {j : Nat} {e : En} (he : es[j]? = some e) : ∀ x ∈ es.take j, x.path ≠ e.path := by
  intro x hx
  have h2 : Rise (es.take (j + 1)) := h.sublist (List.take_sublist _ _)
  rw [take_at he] at h2
  unfold Rise at h2
  rw [List.pairwise_append] at h2
  exact bl_ne (h2.2.2 x hx e (by simp))

set_option maxRecDepth 100000 in
set_option maxHeartbeats 6400000 in
theorem sightOf_any (a : Option Addr) (c n : Nat) (ls : List (List En)) (w : World) (h : RdL w a ls) (hn : n = ls.length) (hl : ls.length ≤ 4) (hF : ∀ es ∈ ls, Rise es ∧ es.length ≤ 12 ∧ SmallE es) :
    Calls Tryz.prog 40 #[.slice a n c] w fun r w' => ∃ b N, r = .returned (.map (some b)) ∧ w.heap.size ≤ b ∧ N ≤ 48 ∧ SeeM w w' b N (seeL ls) ∧ Below w.heap.size w w' := by
  subst hn
  have HR := hide h
  have HFt := hide hF
  clear h hF
  have hmm : ∀ u : World, (Instr.makeMap 83 none).run Tryz.prog u = .ok (.map (some u.heap.size)) (u.alloc (.map #[] 0)) := fun u => by simp [Instr.makeMap, Result.andThen]
  go_enter Tryz.func40, Tryz.ntmps40
  go_wp2_with fail
  go_loopw [11] (fun i wr => ∃ k N : Nat, k ≤ ls.length ∧ i = .int .i64 k ∧ N ≤ 12 * k ∧ Hid (SeeM w wr w.heap.size N (seeL (ls.take k))) ∧ Hid (Below w.heap.size w wr)) (fun i _ => ls.length - (intOf i).toNat)
  case atStart => exact ⟨0, 0, Nat.zero_le _, rfl, Nat.le_refl _, hide ((SeeM.made w w).congr (fun i p => (seeL_nil i p).symm)), hide (below_alloc _ _)⟩
  case round =>
    obtain ⟨k, N, hk, rfl, hN, HM, HW⟩ := hrel
    by_cases hlt : k < ls.length
    · obtain ⟨b0, o0, es, x0, c0, rfl, hb0, hes, cc0, hre⟩ := HR.out.at hlt
      have cw := (HW.out.cell (p := ⟨b0, o0 + k, none⟩) hb0).trans cc0
      have HE := hide hre
      have HES := hide hes
      obtain ⟨hri, hle, hsm⟩ := HFt.out es (List.mem_of_getElem? hes)
      have HRi := hide hri
      have HSm := hide hsm
      clear hes cc0 hre hri hsm
      have hkl : (ls.take k).length = k := by rw [List.length_take]; omega
      go_wp2_with fail
      go_loopw [18] (fun i w2 => ∃ j N2 : Nat, j ≤ es.length ∧ i = .int .i64 j ∧ N2 ≤ 12 * k + j ∧ Hid (SeeM w w2 w.heap.size N2 (seeL (ls.take k ++ [es.take j]))) ∧ Hid (Below w.heap.size w w2)) (fun i _ => es.length - (intOf i).toNat)
      case atStart => exact ⟨0, N, Nat.zero_le _, rfl, by omega, hide (HM.out.congr (fun i p => (seeL_snoc_nil _ i p).symm)), HW⟩
      case round =>
        obtain ⟨j, N2, hj, rfl, hN2, HM2, HW2⟩ := hrel
        by_cases hjl : j < es.length
        · obtain ⟨b, off, e, x, cc, rfl, hb, he, c0, c1, c2, c3, hr⟩ := HE.out.at hjl
          have c0 := (HW2.out.cell (p := ⟨b, off + j * 4, none⟩) hb).trans c0
          have c1 := (HW2.out.cell (p := ⟨b, off + j * 4 + 1, none⟩) hb).trans c1
          have c2 := (HW2.out.cell (p := ⟨b, off + j * 4 + 2, none⟩) hb).trans c2
          have c3 := (HW2.out.cell (p := ⟨b, off + j * 4 + 3, none⟩) hb).trans c3
          have HX := hide he
          have HRc := hide hr
          have hsm := (HSm.out e (List.mem_of_getElem? he)).1
          have HNew := hide (rise_new HRi.out he)
          clear he hr
          have BA := hide ((below_alloc wr (.cells #[.string (str e.path), .int .i64 e.kind, .int .i64 e.size, .slice x e.chunks.length cc] 40)).drew)
          have F4 : Hid (Four (wr.alloc (.cells #[.string (str e.path), .int .i64 e.kind, .int .i64 e.size, .slice x e.chunks.length cc] 40)).drew wr.heap.size _ _ _ _) := hide (Four.new wr (.string (str e.path)) (.int .i64 e.kind) (.int .i64 e.size) (.slice x e.chunks.length cc) 40)
          go_wp2_with fail
          go_region_law
            (go_simp; go_wp2_with (go_at_call 82; refine (itemOf_any _ _ _ _ _ _ _).mono ?_; rintro r w3 ⟨rfl, hb3⟩; have BB3 := hide (below_next BA.out hb3); obtain ⟨f0, f1, f2, f3⟩ := F4.out.below hb3; obtain ⟨Dt, hown, hput⟩ := (HM2.out.below BB3.out).put (i := k) (p := e.path) (e := e) (c := cc) (by omega) hsm HRc.out; obtain ⟨w4, hrun, r1, r2⟩ := hown.update spotLaw Tryz.underlying83 (by unfold maxLen; omega) (spot_key (i := k) (p := e.path) (by omega) hsm) (val := itV e x cc) rfl; have HP4 := hide (hput w4 r1); have HG4 := hide r2; clear hb3 hown hput r1 r2; unfold spotV itV at hrun))
          all_goals
            have HN4 : Hid (SeeM w w4 w.heap.size (N2 + 1) (seeL (ls.take k ++ [es.take (j + 1)]))) := hide (HP4.out.congr (fun i p => by have := seeL_step (D := ls.take k) HX.out HNew.out i p; rw [hkl] at this; exact this))
            have B4 := hide ((below_next HW2.out BB3.out).trans ((see_grown HG4.out).below (Nat.le_trans HW2.out.size BB3.out.size) (fun q hq e => by omega)))
            go_wp2_with fail
            go_roundw
            case rel => exact ⟨j + 1, N2 + 1, by omega, by go_num, by omega, HN4, B4⟩
            case measure => simp [intOf]; omega
        · have HE2 := hide (show es.take j = es from List.take_of_length_le (by omega))
          go_wp2_with fail
          go_roundw
          case rel => exact ⟨k + 1, N2, by omega, by go_num, by omega, hide (HM2.out.congr (fun i p => by rw [HE2.out, take_at HES.out])), HW2⟩
          case measure => simp [intOf]; omega
    · have HE := hide (show ls.take k = ls from List.take_of_length_le (by omega))
      go_wp2_with fail
      go_ret
      exact ⟨_, N, rfl, Nat.le_refl _, by omega, by have := HM.out; rw [HE.out] at this; exact this, HW.out⟩

end Go.Proofs.YtejipahfodhmjaaGreat

