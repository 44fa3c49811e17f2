/-
  An entry's line read, as lists of bytes: what the program's reader reads, what the model's does, and that both answer an entry just where the line is what that entry tells. Nothing of a program.
-/
import Derived.Test.YtcknabinmbknaaaGreatDoorJ2
import Derived.Lib.Index
import Derived.Lib.ParseIntB
namespace Go.Proofs.YtcknabinmbknaaaGreatDoor
set_option linter.unusedVariables false

def kindsB : Bs := [102, 100, 119, 111]
/-- The program's kind of a word. -/
def kindW (a : Bs) : Option Int := if Lib.index kindsB a < 0 then none else some (Lib.index kindsB a + 1)
/-- The program's number of a word. -/
def numW (n : Bs) : Option Int :=
  match Lib.parseIntB 64 n with
  | .ok v => some v
  | _ => none
/-- The program's digests of the words that are left. -/
def restW (r : List Bs) : Option (List Int) := if joinC 32 r = [45] then some [] else if r = [] then none else (cutC 44 (joinC 32 r)).mapM hexW
/-- What the program's reader reads, ahead of the look whether it is told so. -/
def readE (l : Bs) : Option En :=
  match cutC 32 l with
  | a :: p :: r => (kindW a).bind fun k => if k = 1 then
      (match r with
        | [] => none
        | n :: r' => (numW n).bind fun v => (restW r').map fun cs => ⟨p, 1, v, cs⟩)
      else some ⟨p, k, 0, []⟩
  | _ => none
/-- What ParseEntry answers. -/
def parE (l : Bs) : Option En := (readE l).bind fun e => if entFault e = 0 ∧ textE e = l then some e else none

theorem numW_all : ∀ n : Fin 25, numW (digB (n.val : Int)) = some (n.val : Int) := by decide +kernel
theorem numW_dig {n : Int} (h : 0 ≤ n ∧ n ≤ 24) : numW (digB n) = some n := by
  have := numW_all ⟨n.toNat, by omega⟩
  have e : ((n.toNat : Nat) : Int) = n := by omega
  simpa [e] using this
theorem kindW_all : ∀ k : Fin 4, kindW (kindB ((k.val : Int) + 1)) = some ((k.val : Int) + 1) := by decide +kernel
theorem kindW_kind {k : Int} (h : 1 ≤ k ∧ k ≤ 4) : kindW (kindB k) = some k := by
  have h1 := kindW_all ⟨(k - 1).toNat, by omega⟩
  have e : (((k - 1).toNat : Nat) : Int) + 1 = k := by omega
  simp only [e] at h1
  exact h1
theorem restW_hexes {cs : List Int} (h : ∀ c ∈ cs, 0 ≤ c ∧ c ≤ 4294967295) : restW [hexesB cs] = some cs := by
  unfold restW
  have e : joinC 32 [hexesB cs] = hexesB cs := rfl
  rw [e]
  by_cases hc : cs = []
  · subst hc; rw [if_pos (by rfl)]
  · rw [if_neg (hexesB_one hc), if_neg (by simp), cut_hexes hc]
    exact hexW_all h
theorem readE_of {e : En} (h : FitE e) : readE (textE e) = some e := by
  unfold readE
  rw [cut_textE h]
  unfold wordsE
  obtain ⟨p, k, s, cs⟩ := e
  by_cases hk : k = 1
  · subst hk
    have h1 : kindW [102] = some 1 := kindW_kind (k := 1) (by omega)
    simp only [if_true, h1, Option.bind_some, numW_dig h.size, restW_hexes h.digs, Option.map_some]
  · have hf := h.form.resolve_left hk
    simp only at hf
    obtain ⟨rfl, rfl⟩ := hf
    simp only [if_neg hk, kindW_kind h.kind, Option.bind_some]
theorem parE_iff {l : Bs} {e : En} : parE l = some e ↔ FitE e ∧ textE e = l := by
  constructor
  · intro h
    unfold parE at h
    obtain ⟨e', h1, h2⟩ := Option.bind_eq_some_iff.1 h
    by_cases hc : entFault e' = 0 ∧ textE e' = l
    · rw [if_pos hc] at h2
      cases h2
      exact ⟨entFault_fit.1 hc.1, hc.2⟩
    · rw [if_neg hc] at h2; cases h2
  · rintro ⟨hF, rfl⟩
    unfold parE
    rw [readE_of hF, Option.bind_some, if_pos ⟨entFault_fit.2 hF, rfl⟩]
theorem parE_none {l : Bs} (h : ∀ e, FitE e → textE e ≠ l) : parE l = none := by
  cases hp : parE l with
  | none => rfl
  | some e => exact absurd (parE_iff.1 hp).2 (h e (parE_iff.1 hp).1)
theorem parE_yes {l : Bs} {e : En} (hr : readE l = some e) (hf : entFault e = 0) (ht : textE e = l) : parE l = some e := parE_iff.2 ⟨entFault_fit.1 hf, ht⟩
theorem parE_not {l : Bs} {e : En} (hr : readE l = some e) (hf : entFault e ≠ 0 ∨ textE e ≠ l) : parE l = none := by
  apply parE_none
  rintro e' hF rfl
  rw [readE_of hF] at hr
  cases hr
  exact hf.elim (fun h => h (entFault_fit.2 hF)) (fun h => h rfl)
theorem parE_unread {l : Bs} (hr : readE l = none) : parE l = none := by
  apply parE_none
  rintro e' hF rfl
  rw [readE_of hF] at hr
  cases hr

/-- The model's kind of a word. -/
def kindS (a : Bs) : Int := if a = [102] then 1 else if a = [100] then 2 else if a = [119] then 3 else if a = [111] then 4 else 0
/-- The model's number of a word. -/
def numStep (a : Option Int) (c : UInt8) : Option Int := a.bind fun x => if (c.toNat : Int) < 48 ∨ 57 < (c.toNat : Int) then none else some (x * 10 + ((c.toNat : Int) - 48))
def numS (n : Bs) : Option Int := if n.length < 1 ∨ 2 < n.length then none else n.foldl numStep (some 0)
/-- The model's digests of the last word. -/
def chunkS (t : Bs) : Option (List Int) := if t = [45] then some [] else (cutC 44 t).mapM hexW
/-- What the model reads, ahead of its last look. -/
def readS (l : Bs) : Option En :=
  match cutC 32 l with
  | [a, p, n, t] => if kindS a = 1 then (numS n).bind fun v => (chunkS t).map fun cs => ⟨p, 1, v, cs⟩ else some ⟨p, kindS a, 0, []⟩
  | a :: p :: _ => some ⟨p, kindS a, 0, []⟩
  | _ => none
theorem numS_all : ∀ n : Fin 25, numS (digB (n.val : Int)) = some (n.val : Int) := by decide +kernel
theorem numS_dig {n : Int} (h : 0 ≤ n ∧ n ≤ 24) : numS (digB n) = some n := by
  have := numS_all ⟨n.toNat, by omega⟩
  have e : ((n.toNat : Nat) : Int) = n := by omega
  simpa [e] using this
theorem kindS_all : ∀ k : Fin 4, kindS (kindB ((k.val : Int) + 1)) = ((k.val : Int) + 1) := by decide +kernel
theorem kindS_kind {k : Int} (h : 1 ≤ k ∧ k ≤ 4) : kindS (kindB k) = k := by
  have h1 := kindS_all ⟨(k - 1).toNat, by omega⟩
  have e : (((k - 1).toNat : Nat) : Int) + 1 = k := by omega
  simp only [e] at h1
  exact h1
theorem chunkS_hexes {cs : List Int} (h : ∀ c ∈ cs, 0 ≤ c ∧ c ≤ 4294967295) : chunkS (hexesB cs) = some cs := by
  unfold chunkS
  by_cases hc : cs = []
  · subst hc; rw [if_pos (by rfl)]
  · rw [if_neg (hexesB_one hc), cut_hexes hc]
    exact hexW_all h
theorem readS_of {e : En} (h : FitE e) : readS (textE e) = some e := by
  unfold readS
  rw [cut_textE h]
  unfold wordsE
  obtain ⟨p, k, s, cs⟩ := e
  by_cases hk : k = 1
  · subst hk
    have h1 : kindS [102] = 1 := by decide
    simp only [if_true, h1, Option.bind_some, numS_dig h.size, chunkS_hexes h.digs, Option.map_some]
  · have hf := h.form.resolve_left hk
    simp only at hf
    obtain ⟨rfl, rfl⟩ := hf
    simp only [if_neg hk, kindS_kind h.kind]
theorem parS_yes {l : Bs} {e : En} (hr : readS l = some e) (hf : entFault e = 0) (ht : textE e = l) : parE l = some e := parE_iff.2 ⟨entFault_fit.1 hf, ht⟩
theorem parS_not {l : Bs} {e : En} (hr : readS l = some e) (hf : entFault e ≠ 0 ∨ textE e ≠ l) : parE l = none := by
  apply parE_none
  rintro e' hF rfl
  rw [readS_of hF] at hr
  cases hr
  exact hf.elim (fun h => h (entFault_fit.2 hF)) (fun h => h rfl)
theorem parS_unread {l : Bs} (hr : readS l = none) : parE l = none := by
  apply parE_none
  rintro e' hF rfl
  rw [readS_of hF] at hr
  cases hr
end Go.Proofs.YtcknabinmbknaaaGreatDoor
