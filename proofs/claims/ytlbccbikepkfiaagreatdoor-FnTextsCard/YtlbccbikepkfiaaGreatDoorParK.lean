/-
  Layers as text: what ParseLayer reads, as lists.
-/
import Derived.Test.YtlbccbikepkfiaaGreatDoorJ1
import Derived.Test.YtlbccbikepkfiaaGreatDoorLayR
namespace Go.Proofs.YtlbccbikepkfiaaGreatDoor
set_option linter.unusedVariables false

/-- The lines of a text's pieces: what stands behind the last mark counts where it is not empty. -/
def linesP : List Bs → List Bs
  | [] => []
  | [a] => if a = [] then [] else [a]
  | a :: b :: r => a :: linesP (b :: r)
theorem linesP_one {a : Bs} (h : a ≠ []) : linesP [a] = [a] := by simp [linesP, h]
theorem linesP_end : linesP [[]] = [] := by simp [linesP]
theorem linesP_more {a : Bs} {r : List Bs} (h : r ≠ []) : linesP (a :: r) = a :: linesP r := by
  cases r with
  | nil => exact absurd rfl h
  | cons b r => rfl
theorem linesP_snoc : ∀ (ls : List Bs), linesP (ls ++ [[]]) = ls
  | [] => linesP_end
  | a :: ls => by
    rw [List.cons_append, linesP_more (by simp), linesP_snoc ls]
theorem linesP_mem : ∀ (ps : List Bs), ∀ x ∈ linesP ps, x ∈ ps
  | [], x, h => by simp [linesP] at h
  | [a], x, h => by
    by_cases ha : a = []
    · simp [linesP, ha] at h
    · simpa [linesP, ha] using h
  | a :: b :: r, x, h => by
    rw [linesP_more (by simp)] at h
    rcases List.mem_cons.1 h with h | h
    · exact List.mem_cons.2 (Or.inl h)
    · exact List.mem_cons.2 (Or.inr (linesP_mem (b :: r) x h))
theorem linesP_len : ∀ (ps : List Bs), (linesP ps).length ≤ ps.length
  | [] => by simp [linesP]
  | [a] => by by_cases ha : a = [] <;> simp [linesP, ha]
  | a :: b :: r => by
    rw [linesP_more (by simp)]
    have := linesP_len (b :: r)
    simp only [List.length_cons] at this ⊢
    omega
/-- What the program's reader reads, and what ParseLayer answers. -/
def readL (t : Bs) : Option (List En) := (linesP (cutC 10 t)).mapM readE
def parL (t : Bs) : Option (List En) := (readL t).bind fun es => if layFaultP es = 0 ∧ packL es = t then some es else none
/-- What the model reads. -/
def modL (t : Bs) : Option (List En) := ((cutC 10 t).dropLast.mapM parE).bind fun es => if (cutC 10 t).getLast? = some [] ∧ layFault es = 0 then some es else none

theorem packL_cons (e : En) (es : List En) : packL (e :: es) = textE e ++ 10 :: packL es := by simp [packL]
theorem cut_pack : ∀ {es : List En}, (∀ e ∈ es, FitE e) → cutC 10 (packL es) = es.map textE ++ [[]]
  | [], _ => rfl
  | e :: es, h => by
    rw [packL_cons, cutC_hit _ (textE_line (h e (by simp))), cut_pack (fun x hx => h x (by simp [hx]))]
    rfl
theorem mapM_texts {f : Bs → Option En} : ∀ {es : List En}, (∀ e ∈ es, f (textE e) = some e) → (es.map textE).mapM f = some es
  | [], _ => rfl
  | e :: es, h => by
    rw [List.map_cons, List.mapM_cons, h e (by simp), mapM_texts (fun x hx => h x (by simp [hx]))]
    rfl
theorem mapM_back {f : Bs → Option En} {g : En → Bs} (hf : ∀ l e, f l = some e → g e = l) : ∀ {ls : List Bs} {es : List En}, ls.mapM f = some es → es.map g = ls
  | [], es, h => by simp at h; subst h; rfl
  | l :: ls, es, h => by
    rw [List.mapM_cons] at h
    cases hl : f l with
    | none => rw [hl] at h; simp at h
    | some e =>
      cases hs : ls.mapM f with
      | none => rw [hl, hs] at h; simp at h
      | some es' =>
        rw [hl, hs] at h
        simp at h
        subst h
        rw [List.map_cons, hf l e hl, mapM_back hf hs]
theorem mapM_len' {f : Bs → Option En} : ∀ {ls : List Bs} {es : List En}, ls.mapM f = some es → es.length = ls.length
  | [], es, h => by simp at h; subst h; rfl
  | l :: ls, es, h => by
    rw [List.mapM_cons] at h
    cases hl : f l with
    | none => rw [hl] at h; simp at h
    | some e =>
      cases hs : ls.mapM f with
      | none => rw [hl, hs] at h; simp at h
      | some es' =>
        rw [hl, hs] at h
        simp at h
        subst h
        simp [mapM_len' hs]
theorem mapM_mem {f : Bs → Option En} : ∀ {ls : List Bs} {es : List En}, ls.mapM f = some es → ∀ e ∈ es, ∃ l ∈ ls, f l = some e
  | [], es, h, e, he => by simp at h; subst h; simp at he
  | l :: ls, es, h, e, he => by
    rw [List.mapM_cons] at h
    cases hl : f l with
    | none => rw [hl] at h; simp at h
    | some e0 =>
      cases hs : ls.mapM f with
      | none => rw [hl, hs] at h; simp at h
      | some es' =>
        rw [hl, hs] at h
        simp at h
        subst h
        rcases List.mem_cons.1 he with rfl | he
        · exact ⟨l, by simp, hl⟩
        · obtain ⟨x, hx, hxe⟩ := mapM_mem hs e he
          exact ⟨x, by simp [hx], hxe⟩
theorem right_fits {es : List En} (h : Right es) : ∀ e ∈ es, FitE e := fun e he => entFault_fit.1 (h.ent e he)
theorem parL_iff {t : Bs} {es : List En} : parL t = some es ↔ Right es ∧ packL es = t := by
  constructor
  · intro h
    unfold parL at h
    cases hr : readL t with
    | none => rw [hr] at h; cases h
    | some xs =>
      rw [hr] at h
      simp only [Option.bind_some] at h
      split at h
      · rename_i hc
        cases h
        exact ⟨right_P.1 hc.1, hc.2⟩
      · cases h
  · rintro ⟨h, rfl⟩
    have hr : readL (packL es) = some es := by
      unfold readL
      rw [cut_pack (right_fits h), linesP_snoc]
      exact mapM_texts (fun e he => readE_of (right_fits h e he))
    unfold parL
    rw [hr]
    show (if layFaultP es = 0 ∧ packL es = packL es then some es else none) = some es
    exact if_pos ⟨right_P.2 h, rfl⟩
theorem modL_iff {t : Bs} {es : List En} : modL t = some es ↔ Right es ∧ packL es = t := by
  constructor
  · intro h
    unfold modL at h
    cases hr : (cutC 10 t).dropLast.mapM parE with
    | none => rw [hr] at h; cases h
    | some xs =>
      rw [hr] at h
      simp only [Option.bind_some] at h
      split at h
      · rename_i hc
        cases h
        have hR := right_E.1 hc.2
        refine ⟨hR, ?_⟩
        have h1 : es.map textE = (cutC 10 t).dropLast := mapM_back (fun l e he => (parE_iff.1 he).2) hr
        have h2 : cutC 10 t = es.map textE ++ [[]] := by
          rw [h1]
          have hne := cutC_ne 10 t
          have h3 := List.dropLast_concat_getLast hne
          have h4 : (cutC 10 t).getLast hne = [] := by
            have := hc.1
            rw [List.getLast?_eq_some_getLast hne] at this
            exact Option.some.inj this
          rw [h4] at h3
          exact h3.symm
        rw [← joinC_cut 10 t, h2, ← cut_pack (right_fits hR), joinC_cut]
      · cases h
  · rintro ⟨h, rfl⟩
    have hc := cut_pack (right_fits h)
    have hr : (cutC 10 (packL es)).dropLast.mapM parE = some es := by
      rw [hc, List.dropLast_concat]
      exact mapM_texts (fun e he => parE_iff.2 ⟨right_fits h e he, rfl⟩)
    unfold modL
    rw [hr]
    simp only [Option.bind_some]
    rw [if_pos ⟨by rw [hc, List.getLast?_concat], right_E.2 h⟩]
theorem modL_eq (t : Bs) : modL t = parL t := by
  cases h : modL t with
  | some es => exact (parL_iff.2 (modL_iff.1 h)).symm
  | none =>
    cases h2 : parL t with
    | none => rfl
    | some es => rw [modL_iff.2 (parL_iff.1 h2)] at h; cases h
theorem parL_unread {t : Bs} (h : readL t = none) : parL t = none := by unfold parL; rw [h]; rfl
theorem parL_yes {t : Bs} {es : List En} (h : readL t = some es) (hf : layFaultP es = 0) (hp : packL es = t) : parL t = some es := parL_iff.2 ⟨right_P.1 hf, hp⟩
theorem parL_not {t : Bs} {es : List En} (h : readL t = some es) (hn : layFaultP es ≠ 0 ∨ packL es ≠ t) : parL t = none := by
  unfold parL
  rw [h]
  simp only [Option.bind_some]
  rw [if_neg (fun hc => by rcases hn with hn | hn; exact hn hc.1; exact hn hc.2)]
def layCode (t : Bs) : Int := if 600 < t.length then 2 else match parL t with | some _ => 0 | none => 5
def layList (t : Bs) : List En := if 600 < t.length then [] else match parL t with | some es => es | none => []
theorem lay_many {t : Bs} (h : 600 < t.length) : layCode t = 2 ∧ layList t = [] := by simp [layCode, layList, h]
theorem lay_so {t : Bs} {es : List En} (h : ¬ 600 < t.length) (hp : parL t = some es) : layCode t = 0 ∧ layList t = es := by simp [layCode, layList, h, hp]
theorem lay_no {t : Bs} (h : ¬ 600 < t.length) (hp : parL t = none) : layCode t = 5 ∧ layList t = [] := by simp [layCode, layList, h, hp]
end Go.Proofs.YtlbccbikepkfiaaGreatDoor
