/-
  Layers seen as one: what a layer hides, as lists.
-/
import Derived.Test.YtmpojjlpopimfaaGreatMerL
namespace Go.Proofs.YtmpojjlpopimfaaGreat
set_option linter.unusedVariables false

/-- Does the layer's entry of that path hide what is below it? -/
def hideAt (es : List En) (q : Bs) : Bool := (findE es q).any fun e => !decide (e.kind = 2)
def hideUp (es : List En) (p : Bs) : Bool := (above p).any (hideAt es)
def hidesE (es : List En) (p : Bs) : Bool := hideAt es p || hideUp es p
/-- What HidesBelow answers. -/
def hidB (es : List En) (p : Bs) : Bool := decide (askP es p = 0) && hidesE es p

/-- How the model counts an entry: 2, 1, 0. -/
def rankE (es : List En) (q : Bs) : Int :=
  match findE es q with
  | some e => if e.kind = 3 ∨ e.kind = 1 then 2 else if e.kind = 4 then 1 else 0
  | none => 0
def overN (es : List En) (ups : List Bs) : Int := if ups.any (fun u => decide (rankE es u = 2)) then 2 else if ups.any (fun u => decide (rankE es u = 1)) then 1 else 0
def hidN (es : List En) (p : Bs) : Int := if overN es (above p) = 2 ∨ rankE es p = 2 then 2 else if overN es (above p) = 1 ∨ rankE es p = 1 then 1 else 0

theorem rank_none {es : List En} {q : Bs} (h : findE es q = none) : rankE es q = 0 := by simp [rankE, h]
theorem rank_two {es : List En} {q : Bs} {e : En} (h : findE es q = some e) (hk : e.kind = 3 ∨ e.kind = 1) : rankE es q = 2 := by simp only [rankE, h]; rw [if_pos hk]
theorem rank_one {es : List En} {q : Bs} {e : En} (h : findE es q = some e) (hk : e.kind = 4) : rankE es q = 1 := by simp [rankE, h, hk]
theorem rank_dir {es : List En} {q : Bs} {e : En} (h : findE es q = some e) (h1 : e.kind ≠ 1) (h3 : e.kind ≠ 3) (h4 : e.kind ≠ 4) : rankE es q = 0 := by simp [rankE, h, h1, h3, h4]
theorem rank_hide {es : List En} (h : Right es) (q : Bs) : hideAt es q = decide (rankE es q ≠ 0) := by
  cases hf : findE es q with
  | none => simp [hideAt, rankE, hf]
  | some e =>
    have he := (find_mem hf).1
    rcases ent_kinds (h.ent e he) with hk | hk | hk | hk <;> simp [hideAt, rankE, hf, hk]
theorem rank_cases (es : List En) (q : Bs) : rankE es q = 0 ∨ rankE es q = 1 ∨ rankE es q = 2 := by
  unfold rankE
  split
  · split
    · exact Or.inr (Or.inr rfl)
    · split
      · exact Or.inr (Or.inl rfl)
      · exact Or.inl rfl
  · exact Or.inl rfl
theorem over_cases (es : List En) (ups : List Bs) : overN es ups = 0 ∨ overN es ups = 1 ∨ overN es ups = 2 := by
  unfold overN
  split
  · exact Or.inr (Or.inr rfl)
  · split
    · exact Or.inr (Or.inl rfl)
    · exact Or.inl rfl
theorem over_zero {es : List En} {ups : List Bs} : overN es ups ≠ 0 ↔ ∃ u ∈ ups, rankE es u ≠ 0 := by
  unfold overN
  constructor
  · intro h
    split at h
    · rename_i h2
      obtain ⟨u, hu, hr⟩ := List.any_eq_true.1 h2
      exact ⟨u, hu, by have := of_decide_eq_true hr; omega⟩
    · split at h
      · rename_i h2
        obtain ⟨u, hu, hr⟩ := List.any_eq_true.1 h2
        exact ⟨u, hu, by have := of_decide_eq_true hr; omega⟩
      · exact absurd rfl h
  · rintro ⟨u, hu, hr⟩
    rcases rank_cases es u with h | h | h
    · exact absurd h hr
    · split
      · omega
      · rw [if_pos (List.any_eq_true.2 ⟨u, hu, decide_eq_true h⟩)]; omega
    · rw [if_pos (List.any_eq_true.2 ⟨u, hu, decide_eq_true h⟩)]; omega
theorem hidN_pos {es : List En} (h : Right es) (p : Bs) : decide (0 < hidN es p) = hidesE es p := by
  have h1 : hideUp es p = decide (overN es (above p) ≠ 0) := by
    rw [Bool.eq_iff_iff, decide_eq_true_iff, over_zero]
    unfold hideUp
    rw [List.any_eq_true]
    constructor
    · rintro ⟨u, hu, hr⟩
      rw [rank_hide h] at hr
      exact ⟨u, hu, of_decide_eq_true hr⟩
    · rintro ⟨u, hu, hr⟩
      exact ⟨u, hu, by rw [rank_hide h]; exact decide_eq_true hr⟩
  unfold hidesE
  rw [h1, rank_hide h]
  unfold hidN
  rcases over_cases es (above p) with h2 | h2 | h2 <;> rcases rank_cases es p with h3 | h3 | h3 <;> simp [h2, h3]
/-- One step of the model's loop. -/
theorem over_take_two {es : List En} {ups : List Bs} {k : Nat} {u : Bs} (hu : ups[k]? = some u) (h : rankE es u = 2) : overN es ups = 2 := by
  unfold overN
  rw [if_pos (List.any_eq_true.2 ⟨u, List.mem_of_getElem? hu, decide_eq_true h⟩)]
theorem take_at {α : Type} {l : List α} {k : Nat} {x : α} (h : l[k]? = some x) : l.take (k + 1) = l.take k ++ [x] := by rw [List.take_add_one, h]; rfl
theorem over_take {es : List En} {ups : List Bs} {k : Nat} {u : Bs} (hu : ups[k]? = some u) (h2 : overN es (ups.take k) ≠ 2) (h : rankE es u ≠ 2) : overN es (ups.take (k + 1)) = if rankE es u = 1 then 1 else overN es (ups.take k) := by
  rw [take_at hu]
  unfold overN at h2 ⊢
  simp only [List.any_append, List.any_cons, List.any_nil, Bool.or_false, h, decide_false]
  split at h2
  · exact absurd rfl h2
  · rename_i h3
    simp only [h3, Bool.false_eq_true, if_false]
    by_cases h4 : rankE es u = 1
    · simp [h4]
    · simp [h4]
theorem over_take_ne {es : List En} {ups : List Bs} {k : Nat} {u : Bs} (hu : ups[k]? = some u) (h2 : overN es (ups.take k) ≠ 2) (h : rankE es u ≠ 2) : overN es (ups.take (k + 1)) ≠ 2 := by
  rw [over_take hu h2 h]
  split
  · omega
  · exact h2
theorem askP_right {es : List En} {p : Bs} (h : askP es p = 0) : Right es ∧ faultP p = 0 := by
  unfold askP at h
  split at h
  · rename_i h1; exact ⟨right_P.1 h1, h⟩
  · rename_i h1; exact absurd h h1
theorem askP_of {es : List En} {p : Bs} (h : Right es) (hp : faultP p = 0) : askP es p = 0 := by
  unfold askP
  rw [if_pos (right_P.2 h)]; exact hp
theorem hidB_good {es : List En} {p : Bs} (h : askP es p = 0) : hidB es p = hidesE es p := by simp [hidB, h]
theorem hidB_bad {es : List En} {p : Bs} (h : askP es p ≠ 0) : hidB es p = false := by simp [hidB, h]
/-- What a layer hides, said by 'hid'. -/
theorem hides_iff {es : List En} (h : Right es) {p : Bs} (hp : faultP p = 0) : hidesE es p = true ↔ ∃ e ∈ es, e.kind ≠ 2 ∧ (e.path = p ∨ belowB p e.path = true) := by
  have hat : ∀ q, hideAt es q = true ↔ ∃ e ∈ es, e.kind ≠ 2 ∧ e.path = q := fun q => by
    constructor
    · intro hq
      cases hf : findE es q with
      | none => simp [hideAt, hf] at hq
      | some e =>
        obtain ⟨he, hpq⟩ := find_mem hf
        simp [hideAt, hf] at hq
        exact ⟨e, he, hq, hpq⟩
    · rintro ⟨e, he, hk, rfl⟩
      simp [hideAt, rise_find h.rise he, hk]
  unfold hidesE hideUp
  rw [Bool.or_eq_true, hat, List.any_eq_true]
  constructor
  · rintro (⟨e, he, hk, hq⟩ | ⟨u, hu, hr⟩)
    · exact ⟨e, he, hk, Or.inl hq⟩
    · obtain ⟨e, he, hk, rfl⟩ := (hat u).1 hr
      have hb : isBelow p e.path = true := by simpa [isBelow] using hu
      rw [isBelow_good hp] at hb
      exact ⟨e, he, hk, Or.inr (of_decide_eq_true hb).2⟩
  · rintro ⟨e, he, hk, (hq | hq)⟩
    · exact Or.inl ⟨e, he, hk, hq⟩
    · refine Or.inr ⟨e.path, ?_, (hat _).2 ⟨e, he, hk, rfl⟩⟩
      have hb : isBelow p e.path = true := by rw [isBelow_good hp]; exact decide_eq_true ⟨entFault_zero (h.ent e he), hq⟩
      simpa [isBelow] using hb
end Go.Proofs.YtmpojjlpopimfaaGreat
