/-
  Layers as lists of entries, as the program asks them: a parent is any entry of its path that is a directory. Nothing of a program.
-/
import Derived.Test.YtcknabinmbknaaaGreatDoorJ1
namespace Go.Proofs.YtcknabinmbknaaaGreatDoor
set_option linter.unusedVariables false

/-- Is a path's parent among the entries, as a directory? -/
def hasDir (es : List En) (q : Bs) : Bool := es.any fun x => decide (x.path = q) && dirK x.kind
def homeP (es : List En) (p : Bs) : Bool := if parentP p = [] then true else hasDir es (parentP p)
def entBadH (home : Bs → Bool) (prev : Option En) (e : En) : Int := if entFault e = 0 then (if lowE prev e then 1 else if home e.path then 0 else 9) else entFault e
def layFromH (home : Bs → Bool) : Option En → List En → Int
  | _, [] => 0
  | prev, e :: r => if entBadH home prev e = 0 then layFromH home (some e) r else entBadH home prev e
/-- What the program's LayerFault answers. -/
def layFaultP (es : List En) : Int := if 12 < es.length then 2 else layFromH (homeP es) none es
theorem layFrom_H (es : List En) : ∀ (l : List En) (prev : Option En), layFrom es prev l = layFromH (homeE es) prev l
  | [], _ => rfl
  | e :: r, prev => by
    simp only [layFrom, layFromH]
    have : entBad es prev e = entBadH (homeE es) prev e := rfl
    rw [this, layFrom_H es r (some e)]
theorem layFaultP_many {es : List En} (h : 12 < es.length) : layFaultP es = 2 := by simp [layFaultP, h]
theorem layFaultP_few {es : List En} (h : ¬ 12 < es.length) : layFaultP es = layFromH (homeP es) (prevE es 0) (es.drop 0) := by simp [layFaultP, h, prevE]
theorem layFromH_step {es : List En} {H : Bs → Bool} {i : Nat} {e : En} (h : es[i]? = some e) : layFromH H (prevE es i) (es.drop i) = if entBadH H (prevE es i) e = 0 then layFromH H (prevE es (i + 1)) (es.drop (i + 1)) else entBadH H (prevE es i) e := by
  obtain ⟨hi, he⟩ := List.getElem?_eq_some_iff.1 h
  have e1 : prevE es (i + 1) = some e := by simp [prevE, h]
  rw [e1, List.drop_eq_getElem_cons hi, he]
  rfl
theorem layH_bad {es : List En} {H : Bs → Bool} {k : Nat} {e : En} {F : Int} (hF : F = layFromH H (prevE es k) (es.drop k)) (he : es[k]? = some e) (h : entFault e ≠ 0) : F = entFault e := by
  have hb : entBadH H (prevE es k) e = entFault e := by simp [entBadH, h]
  rw [hF, layFromH_step he, hb, if_neg h]
theorem layH_low {es : List En} {H : Bs → Bool} {k : Nat} {e : En} {F : Int} (hF : F = layFromH H (prevE es k) (es.drop k)) (he : es[k]? = some e) (h : entFault e = 0) (hl : lowE (prevE es k) e = true) : F = 1 := by
  have hb : entBadH H (prevE es k) e = 1 := by simp [entBadH, h, hl]
  rw [hF, layFromH_step he, hb]; rfl
theorem layH_home {es : List En} {H : Bs → Bool} {k : Nat} {e : En} {F : Int} (hF : F = layFromH H (prevE es k) (es.drop k)) (he : es[k]? = some e) (h : entFault e = 0) (hl : lowE (prevE es k) e = false) (hh : H e.path = false) : F = 9 := by
  have hb : entBadH H (prevE es k) e = 9 := by simp [entBadH, h, hl, hh]
  rw [hF, layFromH_step he, hb]; rfl
theorem layH_next {es : List En} {H : Bs → Bool} {k : Nat} {e : En} {F : Int} (hF : F = layFromH H (prevE es k) (es.drop k)) (he : es[k]? = some e) (h : entFault e = 0) (hl : lowE (prevE es k) e = false) (hh : H e.path = true) : F = layFromH H (prevE es (k + 1)) (es.drop (k + 1)) := by
  have hb : entBadH H (prevE es k) e = 0 := by simp [entBadH, h, hl, hh]
  rw [hF, layFromH_step he, hb]; rfl
theorem layH_end {es : List En} {H : Bs → Bool} {k : Nat} {F : Int} (hF : F = layFromH H (prevE es k) (es.drop k)) (hk : es.length ≤ k) : F = 0 := by
  rw [hF, List.drop_eq_nil_of_le hk]; cases prevE es k <;> rfl
theorem joinB_ne {ns : List Bs} (h : ns ≠ []) : joinB ns ≠ [] := by
  cases ns with
  | nil => exact absurd rfl h
  | cons a l => simp [joinB]
theorem parentP_nil {p : Bs} : parentP p = [] ↔ aboveN (cutB p.tail) = [] := by
  constructor
  · intro h
    cases hc : aboveN (cutB p.tail) with
    | nil => rfl
    | cons a l =>
      exfalso
      have hm : parentP p ∈ aboveN (cutB p.tail) := by
        unfold parentP
        rw [List.getLastD_eq_getLast?, List.getLast?_eq_some_getLast (by rw [hc]; simp)]
        exact List.getLast_mem _
      rw [h] at hm
      obtain ⟨k, h0, hk, e⟩ := mem_aboveN.1 hm
      exact joinB_ne (by intro e; have := congrArg List.length e; rw [List.length_take, List.length_nil] at this; omega) e.symm
  · intro h
    simp [parentP, h]

end Go.Proofs.YtcknabinmbknaaaGreatDoor
