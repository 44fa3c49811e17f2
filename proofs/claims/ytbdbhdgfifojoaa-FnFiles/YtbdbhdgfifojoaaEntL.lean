/-
  The model's layers: the place of a path, home, the fault of a layer.
-/
import Derived.Test.YtbdbhdgfifojoaaEntF
namespace Go.Proofs.Ytbdbhdgfifojoaa
open Go.RowKit
set_option linter.unusedVariables false

/-- The place of the first entry of a path. -/
def atE (es : List En) (p : Bs) : Option Nat := es.findIdx? fun e => decide (e.path = p)

theorem str_toList (a : Bs) : (str a).toList = a := by rw [ByteArray.toList_eq, str_data]
theorem str_yes {a b : Bs} (h : a = b) : ((str a).toList == (str b).toList) = true := by rw [h]; simp
theorem str_no {a b : Bs} (h : a ≠ b) : ((str a).toList == (str b).toList) = false := by rw [str_toList, str_toList, beq_eq_false_iff_ne]; exact h
theorem str_beq (a b : Bs) : ((str a).toList == (str b).toList) = decide (a = b) := by
  by_cases h : a = b
  · rw [str_yes h, decide_eq_true h]
  · rw [str_no h, decide_eq_false h]
def placeI (o : Option Nat) : Int := match o with | some i => (i : Int) | none => -1
theorem drop_at {α : Type} {es : List α} {k : Nat} {e : α} (h : es[k]? = some e) : es.drop k = e :: es.drop (k + 1) := by
  obtain ⟨hk, he⟩ := List.getElem?_eq_some_iff.1 h
  rw [List.drop_eq_getElem_cons hk, he]
theorem atE_hit {es : List En} {p : Bs} {k : Nat} {e : En} (h : es[k]? = some e) (hi : atE es p = (atE (es.drop k) p).map (· + k)) (hp : e.path = p) : atE es p = some k := by
  rw [hi, drop_at h]; simp [atE, List.findIdx?_cons, hp]
theorem atE_miss {es : List En} {p : Bs} {k : Nat} {e : En} (h : es[k]? = some e) (hi : atE es p = (atE (es.drop k) p).map (· + k)) (hp : e.path ≠ p) : atE es p = (atE (es.drop (k + 1)) p).map (· + (k + 1)) := by
  rw [hi, drop_at h]
  simp only [atE, List.findIdx?_cons, hp, decide_false, Bool.false_eq_true, if_false, Option.map_map]
  congr 1
  funext x
  simp only [Function.comp]
  omega
theorem atE_end {es : List En} {p : Bs} {k : Nat} (hk : es.length ≤ k) (hi : atE es p = (atE (es.drop k) p).map (· + k)) : atE es p = none := by
  rw [hi, List.drop_eq_nil_of_le hk]; rfl
theorem atE_find (es : List En) (p : Bs) : findE es p = (atE es p).bind (fun i => es[i]?) := by
  unfold findE atE
  induction es with
  | nil => rfl
  | cons e r ih =>
    by_cases h : e.path = p
    · simp [List.findIdx?_cons, h]
    · simp only [List.findIdx?_cons, List.find?_cons, h, decide_false, Bool.false_eq_true, if_false, ih]
      cases List.findIdx? (fun e => decide (e.path = p)) r <;> simp
theorem atE_lt {es : List En} {p : Bs} {k : Nat} (h : atE es p = some k) : k < es.length := by
  unfold atE at h
  exact (List.findIdx?_eq_some_iff_getElem.1 h).1

theorem homeE_top {es : List En} {p : Bs} (h : parentP p = []) : homeE es p = true := by simp [homeE, h]
theorem homeE_none {es : List En} {p : Bs} (h : parentP p ≠ []) (ha : atE es (parentP p) = none) : homeE es p = false := by simp [homeE, h, atE_find, ha]
theorem homeE_some {es : List En} {p : Bs} {k : Nat} {e : En} (h : parentP p ≠ []) (ha : atE es (parentP p) = some k) (he : es[k]? = some e) : homeE es p = dirK e.kind := by simp [homeE, h, atE_find, ha, he]
theorem str_empty (a : Bs) : (str a).toList.isEmpty = decide (a = []) := by rw [str_toList]; cases a <;> rfl


theorem entFault_zero {e : En} (h : entFault e = 0) : faultP e.path = 0 := by
  by_cases hf : faultP e.path = 0
  · exact hf
  · rw [entFault_path hf] at h; exact absurd h hf
theorem faultP_nil : faultP [] ≠ 0 := by decide
theorem path_pos {p : Bs} (h : faultP p = 0) : 1 ≤ p.length := by
  cases p with
  | nil => exact absurd h faultP_nil
  | cons c r => simp
theorem layFault_many {es : List En} (h : 12 < es.length) : layFault es = 2 := by simp [layFault, h]
theorem layFault_few {es : List En} (h : ¬ 12 < es.length) : layFault es = layFrom es (prevE es 0) (es.drop 0) := by simp [layFault, h, prevE]
theorem layFrom_bad {es : List En} {k : Nat} {e : En} {F : Int} (hF : F = layFrom es (prevE es k) (es.drop k)) (he : es[k]? = some e) (h : entFault e ≠ 0) : F = entFault e := by
  have hb : entBad es (prevE es k) e = entFault e := by simp [entBad, h]
  rw [hF, layFrom_step he, hb, if_neg h]
theorem layFrom_low {es : List En} {k : Nat} {e : En} {F : Int} (hF : F = layFrom es (prevE es k) (es.drop k)) (he : es[k]? = some e) (h : entFault e = 0) (hl : lowE (prevE es k) e = true) : F = 1 := by
  have hb : entBad es (prevE es k) e = 1 := by simp [entBad, h, hl]
  rw [hF, layFrom_step he, hb]; rfl
theorem layFrom_home {es : List En} {k : Nat} {e : En} {F : Int} (hF : F = layFrom es (prevE es k) (es.drop k)) (he : es[k]? = some e) (h : entFault e = 0) (hl : lowE (prevE es k) e = false) (hh : homeE es e.path = false) : F = 9 := by
  have hb : entBad es (prevE es k) e = 9 := by simp [entBad, h, hl, hh]
  rw [hF, layFrom_step he, hb]; rfl
theorem layFrom_next {es : List En} {k : Nat} {e : En} {F : Int} (hF : F = layFrom es (prevE es k) (es.drop k)) (he : es[k]? = some e) (h : entFault e = 0) (hl : lowE (prevE es k) e = false) (hh : homeE es e.path = true) : F = layFrom es (prevE es (k + 1)) (es.drop (k + 1)) := by
  have hb : entBad es (prevE es k) e = 0 := by simp [entBad, h, hl, hh]
  rw [hF, layFrom_step he, hb]; rfl
theorem layFrom_end {es : List En} {k : Nat} {F : Int} (hF : F = layFrom es (prevE es k) (es.drop k)) (hk : es.length ≤ k) : F = 0 := by
  rw [hF, List.drop_eq_nil_of_le hk]; cases prevE es k <;> rfl


/-- What a layer and a path that are asked for answer. -/
def askE (es : List En) (p : Bs) : Int := if layFault es = 0 then faultP p else layFault es

end Go.Proofs.Ytbdbhdgfifojoaa
