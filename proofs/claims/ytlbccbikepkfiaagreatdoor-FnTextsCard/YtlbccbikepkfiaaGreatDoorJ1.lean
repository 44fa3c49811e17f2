/-
  Texts put together: PathL LayL Mem Bytes Hex Parse HexF TxtL ManL Strs PathM LayP CutG AppL Ints ManP ManW PathS ManQ RdP LayN RdM ParL LayI RdE RdN PathA Ents EntF.
-/
import Derived.Lib.Bytealg
import Derived.Lib.Strings
import GoSem.Op.String
import Derived.Test.YtlbccbikepkfiaaGreatDoorRows
import Derived.WalkKit
import Derived.WalkSpells
import Derived.WalkLawsBesides
import Derived.Deep.OwnRows
import Derived.BigQuiet
import Derived.Deep.QuietTactic
import Derived.Carry
import Derived.Shelf.Strings.OnBuilder
import Derived.Shelf.Strconv.Clone
import Derived.Shelf.Slices.Turned
import Derived.Shelf.Strings.Search2
import Derived.Shelf.Small.Wraps
import Derived.Test.YtlbccbikepkfiaaGreatDoorProg
import Derived.Lib.IndexLaws
import Derived.Maps.AppendAt
import Derived.Deep.RegionHeld3
import Derived.Shelf.Strconv.Itoa4
import Derived.Shelf.Strings.Prefix
import Derived.WalkMore
import Derived.ScopeJumps
import Derived.Lib.Index
import Derived.Lib.ParseIntB
import Derived.Shelf.Strings.Search3
import Derived.Shelf.Strconv.ParseIntPublic10
import Derived.Lib.IndexBytes
import Derived.Handy
namespace Go.Proofs.YtlbccbikepkfiaaGreatDoor
set_option linter.unusedVariables false

abbrev Bs := List UInt8
def str (l : Bs) : ByteArray := ⟨l.toArray⟩
theorem str_data (l : Bs) : (str l).data.toList = l := by simp [str]
theorem str_size (l : Bs) : (str l).size = l.length := by simp [str, ByteArray.size]
theorem str_of (s : ByteArray) : str s.data.toList = s := by simp [str]
theorem str_inj {a b : Bs} (h : str a = str b) : a = b := by
  have := congrArg (fun s : ByteArray => s.data.toList) h
  simpa [str_data] using this
theorem str_eq_iff {a b : Bs} : str a = str b ↔ a = b := ⟨str_inj, fun h => by rw [h]⟩

/-- Cut at each stroke. -/
def cutB : Bs → List Bs
  | [] => [[]]
  | c :: l => if c = 47 then [] :: cutB l else
    match cutB l with
    | [] => [[c]]
    | p :: ps => (c :: p) :: ps
/-- A stroke ahead of each. -/
def joinB : List Bs → Bs
  | [] => []
  | n :: ns => 47 :: (n ++ joinB ns)

theorem cutB_ne (l : Bs) : cutB l ≠ [] := by
  cases l with
  | nil => simp [cutB]
  | cons c l =>
    simp only [cutB]
    split
    · simp
    · split <;> simp
theorem cutB_stroke (l : Bs) : cutB (47 :: l) = [] :: cutB l := by simp [cutB]
theorem cutB_other {c : UInt8} (h : c ≠ 47) {l : Bs} {p : Bs} {ps : List Bs} (e : cutB l = p :: ps) : cutB (c :: l) = (c :: p) :: ps := by
  simp [cutB, h, e]
theorem cutB_head (l : Bs) : ∃ p ps, cutB l = p :: ps := by
  cases e : cutB l with
  | nil => exact absurd e (cutB_ne l)
  | cons p ps => exact ⟨p, ps, rfl⟩

theorem cutB_miss {l : Bs} (h : (47 : UInt8) ∉ l) : cutB l = [l] := by
  induction l with
  | nil => rfl
  | cons c l ih =>
    have h1 : c ≠ 47 := fun e => h (by simp [e])
    have h2 : (47 : UInt8) ∉ l := fun e => h (by simp [e])
    exact cutB_other h1 (ih h2)
theorem cutB_hit {a : Bs} (b : Bs) (h : (47 : UInt8) ∉ a) : cutB (a ++ 47 :: b) = a :: cutB b := by
  induction a with
  | nil => exact cutB_stroke b
  | cons c a ih =>
    have h1 : c ≠ 47 := fun e => h (by simp [e])
    have h2 : (47 : UInt8) ∉ a := fun e => h (by simp [e])
    exact cutB_other h1 (ih h2)

/-- One byte more, at the end. -/
theorem cutB_snoc : ∀ (l : Bs) (c : UInt8) (o : List Bs) (x : Bs), cutB l = o ++ [x] → cutB (l ++ [c]) = if c = 47 then o ++ [x] ++ [[]] else o ++ [x ++ [c]]
  | [], c, o, x, h => by
    have e : o = [] ∧ x = [] := by
      cases o with
      | nil => simpa [cutB, eq_comm] using h
      | cons a o => simp [cutB] at h
    obtain ⟨rfl, rfl⟩ := e
    by_cases hc : c = 47
    · subst hc; simp [cutB]
    · simp [cutB, hc]
  | d :: l, c, o, x, h => by
    by_cases hd : d = 47
    · subst hd
      rw [cutB_stroke] at h
      cases o with
      | nil =>
        simp at h
        exact absurd h.2 (cutB_ne l)
      | cons a o =>
        simp at h
        obtain ⟨rfl, h⟩ := h
        have ih := cutB_snoc l c o x h
        simp only [List.cons_append, cutB_stroke, ih]
        split <;> simp
    · obtain ⟨p, ps, e⟩ := cutB_head l
      rw [cutB_other hd e] at h
      cases o with
      | nil =>
        simp at h
        obtain ⟨rfl, rfl⟩ := h
        have ih := cutB_snoc l c [] p e
        by_cases hc : c = 47
        · simp only [hc, if_pos, List.nil_append, List.cons_append] at ih ⊢
          exact cutB_other hd ih
        · simp only [hc, if_false, List.nil_append, List.cons_append] at ih ⊢
          exact cutB_other hd ih
      | cons a o =>
        simp at h
        obtain ⟨rfl, h⟩ := h
        have ih := cutB_snoc l c (p :: o) x (by simp [e, h])
        by_cases hc : c = 47
        · simp only [hc, if_pos, List.cons_append] at ih ⊢
          exact cutB_other hd ih
        · simp only [hc, if_false, List.cons_append] at ih ⊢
          exact cutB_other hd ih

theorem cutB_no : ∀ (l : Bs), ∀ n ∈ cutB l, (47 : UInt8) ∉ n
  | [], n, h => by simp [cutB] at h; simp [h]
  | c :: l, n, h => by
    by_cases hc : c = 47
    · subst hc
      rw [cutB_stroke] at h
      rcases List.mem_cons.1 h with rfl | h
      · simp
      · exact cutB_no l n h
    · obtain ⟨p, ps, e⟩ := cutB_head l
      rw [cutB_other hc e] at h
      rcases List.mem_cons.1 h with rfl | h
      · have := cutB_no l p (by simp [e])
        simp [this, Ne.symm hc]
      · exact cutB_no l n (by simp [e, h])

theorem join_append (a b : List Bs) : joinB (a ++ b) = joinB a ++ joinB b := by
  induction a with
  | nil => rfl
  | cons n a ih => simp [joinB, ih]
theorem join_cut : ∀ (l : Bs), joinB (cutB l) = 47 :: l
  | [] => rfl
  | c :: l => by
    by_cases hc : c = 47
    · subst hc
      rw [cutB_stroke, joinB, join_cut l]; rfl
    · obtain ⟨p, ps, e⟩ := cutB_head l
      have ih := join_cut l
      rw [e, joinB] at ih
      rw [cutB_other hc e, joinB]
      simp at ih ⊢
      exact ih
theorem cut_join : ∀ {ns : List Bs}, ns ≠ [] → (∀ n ∈ ns, (47 : UInt8) ∉ n) → cutB (joinB ns).tail = ns
  | [], h, _ => absurd rfl h
  | [n], _, h => by simpa [joinB] using cutB_miss (h n (by simp))
  | n :: m :: ns, _, h => by
    have ih := cut_join (ns := m :: ns) (by simp) (fun x hx => h x (by simp [List.mem_cons.1 hx]))
    have e : joinB (n :: m :: ns) = 47 :: (n ++ 47 :: (joinB (m :: ns)).tail) := by simp [joinB]
    rw [e, List.tail_cons, cutB_hit _ (h n (by simp)), ih]
theorem joinB_cons {ns : List Bs} (h : ns ≠ []) : joinB ns = 47 :: (joinB ns).tail := by
  cases ns with
  | nil => exact absurd rfl h
  | cons n ns => rfl

theorem cutB_length (l : Bs) : (cutB l).length ≤ l.length + 1 := by
  induction l with
  | nil => simp [cutB]
  | cons c l ih =>
    by_cases hc : c = 47
    · subst hc; rw [cutB_stroke]; simp; omega
    · obtain ⟨p, ps, e⟩ := cutB_head l
      rw [cutB_other hc e]
      rw [e] at ih
      simp at ih ⊢; omega
theorem cutB_each : ∀ (l : Bs), ∀ n ∈ cutB l, n.length ≤ l.length
  | [], n, h => by simp [cutB] at h; simp [h]
  | c :: l, n, h => by
    by_cases hc : c = 47
    · subst hc
      rw [cutB_stroke] at h
      rcases List.mem_cons.1 h with rfl | h
      · simp
      · have := cutB_each l n h; simp; omega
    · obtain ⟨p, ps, e⟩ := cutB_head l
      rw [cutB_other hc e] at h
      rcases List.mem_cons.1 h with rfl | h
      · have := cutB_each l p (by simp [e]); simp; omega
      · have := cutB_each l n (by simp [e, h]); simp; omega

/-- A byte a to z. -/
def small (c : UInt8) : Bool := decide (97 ≤ (c.toNat : Int) ∧ (c.toNat : Int) ≤ 122)
/-- A name of bytes a to z. -/
def plain (n : Bs) : Bool := n.all small && !n.isEmpty
/-- The fault of names. -/
def faultN (ns : List Bs) : Int := if ns.all plain then (if ns.all (fun n => decide (n.length ≤ 4)) && decide (ns.length ≤ 3) then 0 else 2) else 5
def faultP (p : Bs) : Int :=
  match p with
  | [] => 5
  | c :: r => if c = 47 then faultN (cutB r) else 5

/-- Names of a path. -/
def Names (ns : List Bs) : Prop := ns ≠ [] ∧ (∀ n ∈ ns, plain n = true) ∧ (∀ n ∈ ns, n.length ≤ 4) ∧ ns.length ≤ 3

theorem plain_no {n : Bs} (h : plain n = true) : (47 : UInt8) ∉ n := by
  intro hm
  simp only [plain, Bool.and_eq_true, List.all_eq_true] at h
  have := h.1 47 hm
  exact absurd this (by decide)
theorem plain_ne {n : Bs} (h : plain n = true) : n ≠ [] := by
  intro e
  subst e
  simp [plain] at h
theorem plain_dots {n : Bs} (h : plain n = true) : n ≠ [46] ∧ n ≠ [46, 46] := by
  constructor
  · rintro rfl; exact absurd h (by decide)
  · rintro rfl; exact absurd h (by decide)

theorem faultN_zero {ns : List Bs} (hne : ns ≠ []) (h : faultN ns = 0) : Names ns := by
  unfold faultN at h
  split at h
  · rename_i hp
    split at h
    · rename_i hq
      simp at hp hq
      exact ⟨hne, hp, hq.1, hq.2⟩
    · omega
  · omega
theorem faultN_of {ns : List Bs} (h : Names ns) : faultN ns = 0 := by
  obtain ⟨h0, h1, h2, h3⟩ := h
  unfold faultN
  rw [if_pos (by simpa using h1), if_pos (by simpa using ⟨h2, h3⟩)]
theorem faultN_cases (ns : List Bs) : faultN ns = 0 ∨ faultN ns = 2 ∨ faultN ns = 5 := by
  unfold faultN
  split
  · split <;> simp
  · simp
theorem faultP_cases (p : Bs) : faultP p = 0 ∨ faultP p = 2 ∨ faultP p = 5 := by
  unfold faultP
  split
  · simp
  · split
    · exact faultN_cases _
    · simp
theorem names_no {ns : List Bs} (h : Names ns) : ∀ n ∈ ns, (47 : UInt8) ∉ n := fun n hn => plain_no (h.2.1 n hn)
/-- A path without fault is made of its names. -/
theorem faultP_zero {p : Bs} (h : faultP p = 0) : ∃ ns, Names ns ∧ p = joinB ns ∧ cutB p.tail = ns ∧ p = 47 :: p.tail := by
  cases p with
  | nil => simp [faultP] at h
  | cons c r =>
    by_cases hc : c = 47
    · subst hc
      simp only [faultP, if_pos] at h
      have hn := faultN_zero (cutB_ne r) h
      exact ⟨cutB r, hn, by rw [join_cut], rfl, rfl⟩
    · simp [faultP, hc] at h
theorem faultP_of {ns : List Bs} (h : Names ns) : faultP (joinB ns) = 0 := by
  rw [joinB_cons h.1]
  simp only [faultP, if_pos]
  rw [cut_join h.1 (names_no h)]
  exact faultN_of h
theorem cut_of {ns : List Bs} (h : Names ns) : cutB (joinB ns).tail = ns := cut_join h.1 (names_no h)

/-- What a piece makes of those that are left. -/
def leftStep (o : Option (List Bs)) (p : Bs) : Option (List Bs) :=
  match o with
  | none => none
  | some l => if p = [] ∨ p = [46] then some l else if p = [46, 46] then (if l = [] then none else some l.dropLast) else some (l ++ [p])
def leftOf (ps : List Bs) : Option (List Bs) := ps.foldl leftStep (some [])
theorem leftOf_snoc (ps : List Bs) (p : Bs) : leftOf (ps ++ [p]) = leftStep (leftOf ps) p := by simp [leftOf]
theorem left_none (ps : List Bs) : ps.foldl leftStep none = none := by
  induction ps with
  | nil => rfl
  | cons a l ih => exact ih
theorem left_stop {ps qs : List Bs} (h : leftOf ps = none) : leftOf (ps ++ qs) = none := by
  unfold leftOf at h ⊢
  rw [List.foldl_append, h, left_none]
theorem left_len : ∀ (ps : List Bs) (o : Option (List Bs)) (l : List Bs), ps.foldl leftStep o = some l → ∃ k, o = some k ∧ l.length ≤ k.length + ps.length
  | [], o, l, h => ⟨l, h, by simp⟩
  | p :: ps, o, l, h => by
    obtain ⟨k, hk, hl⟩ := left_len ps _ l h
    cases o with
    | none => simp [leftStep] at hk
    | some m =>
      refine ⟨m, rfl, ?_⟩
      simp only [leftStep] at hk
      split at hk
      · obtain rfl := Option.some.inj hk; simp; omega
      · split at hk
        · split at hk
          · cases hk
          · obtain rfl := Option.some.inj hk; simp at hl ⊢; omega
        · obtain rfl := Option.some.inj hk; simp at hl ⊢; omega
theorem leftOf_len {ps l : List Bs} (h : leftOf ps = some l) : l.length ≤ ps.length := by
  obtain ⟨k, hk, hl⟩ := left_len ps _ l h
  obtain rfl := Option.some.inj hk
  simpa using hl
theorem left_mem : ∀ (ps : List Bs) (o : Option (List Bs)) (l : List Bs), ps.foldl leftStep o = some l → ∃ k, o = some k ∧ ∀ x ∈ l, x ∈ k ∨ x ∈ ps
  | [], o, l, h => ⟨l, h, fun x hx => .inl hx⟩
  | p :: ps, o, l, h => by
    obtain ⟨k, hk, hl⟩ := left_mem ps _ l h
    cases o with
    | none => simp [leftStep] at hk
    | some m =>
      refine ⟨m, rfl, fun x hx => ?_⟩
      rcases hl x hx with h1 | h1
      · simp only [leftStep] at hk
        split at hk
        · obtain rfl := Option.some.inj hk; exact .inl h1
        · split at hk
          · split at hk
            · cases hk
            · obtain rfl := Option.some.inj hk; exact .inl (List.dropLast_subset _ h1)
          · obtain rfl := Option.some.inj hk
            rcases List.mem_append.1 h1 with h2 | h2
            · exact .inl h2
            · simp at h2; exact .inr (by simp [h2])
      · exact .inr (by simp [h1])
theorem leftOf_mem {ps l : List Bs} (h : leftOf ps = some l) : ∀ x ∈ l, x ∈ ps := by
  obtain ⟨k, hk, hl⟩ := left_mem ps _ l h
  obtain rfl := Option.some.inj hk
  intro x hx
  simpa using hl x hx

/-- What NormPath answers. -/
def normC (t : Bs) : Int :=
  if 40 < t.length then 2 else
    match leftOf (cutB t) with
    | none => 5
    | some l => if l = [] then 4 else faultP (joinB l)
def normT (t : Bs) : Bs :=
  if normC t = 0 then
    match leftOf (cutB t) with
    | none => []
    | some l => joinB l
  else []

theorem normC_many {t : Bs} (h : 40 < t.length) : normC t = 2 ∧ normT t = [] := by
  have e : normC t = 2 := by simp [normC, h]
  exact ⟨e, by simp [normT, e]⟩
theorem normC_none {t : Bs} (h : ¬ 40 < t.length) (hl : leftOf (cutB t) = none) : normC t = 5 ∧ normT t = [] := by
  have e : normC t = 5 := by simp [normC, h, hl]
  exact ⟨e, by simp [normT, e]⟩
theorem normC_empty {t : Bs} (h : ¬ 40 < t.length) (hl : leftOf (cutB t) = some []) : normC t = 4 ∧ normT t = [] := by
  have e : normC t = 4 := by simp [normC, h, hl]
  exact ⟨e, by simp [normT, e]⟩
theorem normC_bad {t : Bs} {l : List Bs} (h : ¬ 40 < t.length) (hl : leftOf (cutB t) = some l) (hne : l ≠ []) (hf : faultP (joinB l) ≠ 0) : normC t = faultP (joinB l) ∧ normT t = [] := by
  have e : normC t = faultP (joinB l) := by simp [normC, h, hl, hne]
  exact ⟨e, by simp [normT, e, hf]⟩
theorem normC_good {t : Bs} {l : List Bs} (h : ¬ 40 < t.length) (hl : leftOf (cutB t) = some l) (hne : l ≠ []) (hf : faultP (joinB l) = 0) : normC t = 0 ∧ normT t = joinB l := by
  have e : normC t = 0 := by simp [normC, h, hl, hne, hf]
  exact ⟨e, by simp [normT, e, hl]⟩

theorem norm_zero {t : Bs} (h : normC t = 0) : faultP (normT t) = 0 := by
  by_cases h1 : 40 < t.length
  · rw [(normC_many h1).1] at h; omega
  · cases hl : leftOf (cutB t) with
    | none => rw [(normC_none h1 hl).1] at h; omega
    | some l =>
      by_cases h2 : l = []
      · subst h2; rw [(normC_empty h1 hl).1] at h; omega
      · by_cases h3 : faultP (joinB l) = 0
        · rw [(normC_good h1 hl h2 h3).2]; exact h3
        · rw [(normC_bad h1 hl h2 h3).1] at h; exact absurd h h3

theorem left_plain : ∀ (ns l : List Bs), (∀ n ∈ ns, plain n = true) → ns.foldl leftStep (some l) = some (l ++ ns)
  | [], l, _ => by simp
  | n :: ns, l, h => by
    have hn := h n (by simp)
    have e : leftStep (some l) n = some (l ++ [n]) := by
      simp [leftStep, plain_ne hn, (plain_dots hn).1, (plain_dots hn).2]
    rw [List.foldl_cons, e, left_plain ns _ (fun m hm => h m (by simp [hm]))]
    simp
theorem join_len : ∀ (ns : List Bs), (∀ n ∈ ns, n.length ≤ 4) → (joinB ns).length ≤ 5 * ns.length
  | [], _ => by simp [joinB]
  | n :: ns, h => by
    have := join_len ns (fun m hm => h m (by simp [hm]))
    have := h n (by simp)
    simp [joinB]; omega
/-- A path is made one again: it is the same. -/
theorem norm_same {p : Bs} (h : faultP p = 0) : normC p = 0 ∧ normT p = p := by
  obtain ⟨ns, hN, hp, hc, hs⟩ := faultP_zero h
  have hlen : ¬ 40 < p.length := by
    have := join_len ns hN.2.2.1
    have := hN.2.2.2
    rw [hp]; omega
  have hl : leftOf (cutB p) = some ns := by
    rw [hs, cutB_stroke, hc]
    show ns.foldl leftStep (leftStep (some []) []) = _
    have : leftStep (some []) [] = some [] := by simp [leftStep]
    rw [this, left_plain ns [] hN.2.1]
    rfl
  have hf : faultP (joinB ns) = 0 := by rw [← hp]; exact h
  have := normC_good hlen hl hN.1 hf
  rw [← hp] at this
  exact this

/-- What is above names: the uppermost first. -/
def aboveN (ns : List Bs) : List Bs := (List.range (ns.length - 1)).map fun k => joinB (ns.take (k + 1))
/-- What AboveOf answers. -/
def above (p : Bs) : List Bs := if faultP p = 0 then aboveN (cutB p.tail) else []

theorem aboveN_length (ns : List Bs) : (aboveN ns).length = ns.length - 1 := by simp [aboveN]
theorem names_take {ns : List Bs} (h : Names ns) {k : Nat} (hk : 0 < k) : Names (ns.take k) := by
  obtain ⟨h0, h1, h2, h3⟩ := h
  refine ⟨?_, fun n hn => h1 n (List.mem_of_mem_take hn), fun n hn => h2 n (List.mem_of_mem_take hn), by simp; omega⟩
  cases ns with
  | nil => exact absurd rfl h0
  | cons a l => cases k with
    | zero => omega
    | succ k => simp
theorem mem_aboveN {ns : List Bs} {t : Bs} : t ∈ aboveN ns ↔ ∃ k, 0 < k ∧ k < ns.length ∧ t = joinB (ns.take k) := by
  unfold aboveN
  simp only [List.mem_map, List.mem_range]
  constructor
  · rintro ⟨k, hk, rfl⟩; exact ⟨k + 1, by omega, by omega, rfl⟩
  · rintro ⟨k, h0, hk, rfl⟩
    refine ⟨k - 1, by omega, ?_⟩
    have : k - 1 + 1 = k := by omega
    rw [this]

/-- The model's word: path begins with top, a stroke behind it, and more. -/
def belowB (p t : Bs) : Bool := decide (t.length + 1 < p.length) && (p.take t.length == t) && (p.drop t.length).head? == some 47

/-- Is t above p? Both words are one. -/
theorem above_iff {p t : Bs} (hp : faultP p = 0) : t ∈ aboveN (cutB p.tail) ↔ faultP t = 0 ∧ belowB p t = true := by
  obtain ⟨ns, hN, hpe, hc, hs⟩ := faultP_zero hp
  rw [hc, mem_aboveN]
  constructor
  · rintro ⟨k, h0, hk, rfl⟩
    refine ⟨faultP_of (names_take hN h0), ?_⟩
    have hd : ns.drop k ≠ [] := by intro e; have := congrArg List.length e; simp at this; omega
    obtain ⟨m, ms, hm⟩ : ∃ m ms, ns.drop k = m :: ms := by
      cases e : ns.drop k with
      | nil => exact absurd e hd
      | cons m ms => exact ⟨m, ms, rfl⟩
    have hm1 : m ∈ ns := List.mem_of_mem_drop (by rw [hm]; simp)
    have hm2 := plain_ne (hN.2.1 m hm1)
    have e : p = joinB (ns.take k) ++ 47 :: (m ++ joinB ms) := by
      rw [hpe]
      conv => lhs; rw [← List.take_append_drop k ns, join_append, hm, joinB]
    have hl : 0 < m.length := List.length_pos_iff.2 hm2
    rw [e]
    simp [belowB]
    omega
  · rintro ⟨ht, hb⟩
    obtain ⟨ms, hM, hte, hcm, hsm⟩ := faultP_zero ht
    simp only [belowB, Bool.and_eq_true, decide_eq_true_eq, beq_iff_eq] at hb
    obtain ⟨⟨hlen, htake⟩, hhead⟩ := hb
    obtain ⟨r, hr⟩ : ∃ r, p.drop t.length = 47 :: r := by
      cases e : p.drop t.length with
      | nil => rw [e] at hhead; simp at hhead
      | cons c r => rw [e] at hhead; simp at hhead; exact ⟨r, by rw [hhead]⟩
    have e : p = joinB (ms ++ cutB r) := by
      rw [join_append, join_cut, ← hte, ← hr]
      conv => lhs; rw [← List.take_append_drop t.length p, htake]
    have hns : ns = ms ++ cutB r := by
      rw [← hc, e]
      refine cut_join (by simp [hM.1]) (fun n hn => ?_)
      rcases List.mem_append.1 hn with h | h
      · exact names_no hM n h
      · exact cutB_no r n h
    refine ⟨ms.length, List.length_pos_iff.2 hM.1, ?_, ?_⟩
    · rw [hns]; have := List.length_pos_iff.2 (cutB_ne r); simp; omega
    · rw [hns]; simp [hte]

theorem aboveN_good {ns : List Bs} (h : Names ns) {t : Bs} (ht : t ∈ aboveN ns) : faultP t = 0 := by
  obtain ⟨k, h0, _, rfl⟩ := mem_aboveN.1 ht
  exact faultP_of (names_take h h0)
/-- A path that is shorter is not below. -/
theorem below_not {p t : Bs} (hp : faultP p = 0) (ht : t ∈ above p) : belowB t p = false := by
  have h1 := ht
  rw [above, if_pos hp] at h1
  have h2 := ((above_iff hp).1 h1).2
  simp only [belowB, Bool.and_eq_true, decide_eq_true_eq, beq_iff_eq] at h2
  have h3 : ¬ p.length + 1 < t.length := by omega
  simp [belowB, h3]

/-- The last name. -/
def lastN (ns : List Bs) : Bs := ns.getLastD []
theorem last_split {ns : List Bs} (h : ns ≠ []) : ns = ns.dropLast ++ [lastN ns] := by
  rw [lastN, List.getLastD_eq_getLast?]
  rw [List.getLast?_eq_some_getLast h]
  exact (List.dropLast_concat_getLast h).symm
/-- The path above, a stroke, the last name. -/
theorem parent_join {ns : List Bs} (h : 1 < ns.length) : (aboveN ns).getLastD [] ++ 47 :: lastN ns = joinB ns := by
  have hne : ns ≠ [] := by intro e; simp [e] at h
  have e1 : (aboveN ns).getLastD [] = joinB ns.dropLast := by
    unfold aboveN
    obtain ⟨k, hk⟩ : ∃ k, ns.length - 1 = k + 1 := ⟨ns.length - 2, by omega⟩
    rw [hk, List.range_succ, List.map_append]
    simp [List.dropLast_eq_take, hk]
  rw [e1]
  conv => rhs; rw [last_split hne, join_append]
  simp [joinB]

end Go.Proofs.YtlbccbikepkfiaaGreatDoor

namespace Go.Proofs.YtlbccbikepkfiaaGreatDoor
set_option linter.unusedVariables false

structure En where
  path : Bs
  kind : Int
  size : Int
  chunks : List Int
  deriving DecidableEq

def isDig (c : Int) : Bool := decide (0 ≤ c ∧ c ≤ 4294967295)
/-- Kind, Size and Chunks go together. -/
def formE (e : En) : Bool := decide ((1 ≤ e.kind ∧ e.kind ≤ 4) ∧ (e.kind = 1 ∨ (e.size = 0 ∧ e.chunks.length = 0)))
def sizeE (e : En) : Bool := decide (0 ≤ e.size ∧ e.size ≤ 24)
def manyE (e : En) : Bool := decide ((e.chunks.length : Int) = (e.size + 7) / 8)
/-- What EntryFault answers. -/
def entFault (e : En) : Int :=
  if faultP e.path = 0 then (if formE e then (if sizeE e then (if manyE e then (if e.chunks.all isDig then 0 else 3) else 1) else 3) else 1) else faultP e.path
theorem entFault_path {e : En} (h : faultP e.path ≠ 0) : entFault e = faultP e.path := by simp [entFault, h]
theorem entFault_form {e : En} (h : faultP e.path = 0) (h1 : formE e = false) : entFault e = 1 := by simp [entFault, h, h1]
theorem entFault_size {e : En} (h : faultP e.path = 0) (h1 : formE e = true) (h2 : sizeE e = false) : entFault e = 3 := by simp [entFault, h, h1, h2]
theorem entFault_many {e : En} (h : faultP e.path = 0) (h1 : formE e = true) (h2 : sizeE e = true) (h3 : manyE e = false) : entFault e = 1 := by simp [entFault, h, h1, h2, h3]
theorem entFault_digs {e : En} (h : faultP e.path = 0) (h1 : formE e = true) (h2 : sizeE e = true) (h3 : manyE e = true) : entFault e = if e.chunks.all isDig then 0 else 3 := by simp [entFault, h, h1, h2, h3]

def dirK (k : Int) : Bool := decide (k = 2 ∨ k = 4)
/-- The first entry of a path. -/
def findE (es : List En) (p : Bs) : Option En := es.find? fun e => decide (e.path = p)
/-- The path above; none: empty. -/
def parentP (p : Bs) : Bs := (aboveN (cutB p.tail)).getLastD []
/-- Is the parent of a path a directory of the layer? -/
def homeE (es : List En) (p : Bs) : Bool :=
  if parentP p = [] then true else
    match findE es (parentP p) with
    | none => false
    | some e => dirK e.kind
/-- Is a path not above the one ahead? -/
def lowE (prev : Option En) (e : En) : Bool :=
  match prev with
  | none => false
  | some q => Op.bytesLess e.path q.path || (e.path == q.path)
/-- The fault of one entry of a layer. -/
def entBad (es : List En) (prev : Option En) (e : En) : Int := if entFault e = 0 then (if lowE prev e then 1 else if homeE es e.path then 0 else 9) else entFault e
def layFrom (es : List En) : Option En → List En → Int
  | _, [] => 0
  | prev, e :: r => if entBad es prev e = 0 then layFrom es (some e) r else entBad es prev e
/-- What LayerFault answers. -/
def layFault (es : List En) : Int := if 12 < es.length then 2 else layFrom es none es
/-- The entry ahead of place i. -/
def prevE (es : List En) (i : Nat) : Option En := if i = 0 then none else es[i - 1]?
theorem layFrom_step {es : List En} {i : Nat} {e : En} (h : es[i]? = some e) : layFrom es (prevE es i) (es.drop i) = if entBad es (prevE es i) e = 0 then layFrom es (prevE es (i + 1)) (es.drop (i + 1)) else entBad es (prevE es i) e := by
  obtain ⟨hi, he⟩ := List.getElem?_eq_some_iff.1 h
  have e1 : prevE es (i + 1) = some e := by simp [prevE, h]
  rw [e1, List.drop_eq_getElem_cons hi, he]
  rfl

end Go.Proofs.YtlbccbikepkfiaaGreatDoor

namespace Go.Proofs.YtlbccbikepkfiaaGreatDoor
open Go.RowKit
set_option linter.unusedVariables false

theorem hide {p : Prop} (h : p) : Hid p := h

theorem ret_bool {a b : Bool} (h : a = b) : Ending.returned (.bool a) = .returned (.bool b) := by rw [h]
theorem ret_int {k : IntKind} {a b : Int} (h : a = b) : Ending.returned (.int k a) = .returned (.int k b) := by rw [h]

/-- The slice at address a reads as the integers zs of kind k (an empty one: nothing is known of a). -/
def Reads (k : IntKind) (w : World) (a : Option Addr) (zs : List Int) : Prop :=
  zs ≠ [] → ∃ b off, a = some ⟨b, off, none⟩ ∧ b < w.heap.size ∧ ∀ i, i < zs.length → w.cell? ⟨b, off + i, none⟩ = some (.int k (zs.getD i 0))

/-- All blocks but those of S are as they were. -/
structure Kept (S : Nat → Prop) (w w' : World) : Prop where
  os : w'.os = w.os
  tape : w'.tape = w.tape
  output : w'.output = w.output
  size : w.heap.size ≤ w'.heap.size
  block : ∀ k, k < w.heap.size → ¬ S k → w'.heap[k]? = w.heap[k]?

namespace Kept
variable {S T : Nat → Prop} {w w' w'' : World}
theorem refl (S : Nat → Prop) (w : World) : Kept S w w := ⟨rfl, rfl, rfl, Nat.le_refl _, fun _ _ _ => rfl⟩
theorem trans (h : Kept S w w') (k : Kept S w' w'') : Kept S w w'' :=
  ⟨k.os.trans h.os, k.tape.trans h.tape, k.output.trans h.output, Nat.le_trans h.size k.size, fun i hi hn => (k.block i (Nat.lt_of_lt_of_le hi h.size) hn).trans (h.block i hi hn)⟩
theorem mono (h : Kept S w w') (hs : ∀ k, k < w.heap.size → S k → T k) : Kept T w w' := ⟨h.os, h.tape, h.output, h.size, fun k hk hn => h.block k hk (fun hS => hn (hs k hk hS))⟩
theorem drew (h : Kept S w w') : Kept S w w'.drew := ⟨h.os, h.tape, h.output, h.size, h.block⟩
theorem drewN (h : Kept S w w') : ∀ n, Kept S w (w'.drewN n)
  | 0 => h
  | n + 1 => (drewN h n).drew
theorem alloc (h : Kept S w w') (o : Obj) : Kept S w (w'.alloc o) :=
  ⟨h.os, h.tape, h.output, Nat.le_trans h.size (by simp), fun k hk hn => (Below.heap_alloc _ _ _ (Nat.lt_of_lt_of_le hk h.size)).trans (h.block k hk hn)⟩
theorem setCell (h : Kept S w w') {p : Addr} (hp : p.block < w.heap.size → S p.block) (u : Value) : Kept S w (w'.setCell p u) :=
  ⟨h.os, h.tape, h.output, Nat.le_trans h.size (by simp [World.setCell]), fun k hk hn => (Below.heap_setCell _ _ _ _ (fun e => by subst e; exact hn (hp hk))).trans (h.block k hk hn)⟩
theorem cell (h : Kept S w w') {p : Addr} (hp : p.block < w.heap.size) (hn : ¬ S p.block) : w'.cell? p = w.cell? p := World.cell?_of_block (w := w) (h.block _ hp hn)
theorem frozen (h : Kept S w w') {p : Addr} (hp : p.block < w.heap.size) (hn : ¬ S p.block) : w'.frozen? p = w.frozen? p := World.frozen?_of_block (w := w) (h.block _ hp hn)
theorem below (h : Kept S w w') {B : Nat} (hB : B ≤ w.heap.size) (hS : ∀ k, k < B → ¬ S k) : Below B w w' := ⟨h.os, h.tape, h.output, h.size, fun k hk => h.block k (by omega) (hS k hk)⟩
/-- A step that turns blocks of T alone, none of which was there at first. -/
theorem trans_own (h : Kept S w w') (k : Kept T w' w'') (hn : ∀ b, b < w.heap.size → ¬ T b) : Kept S w w'' :=
  ⟨k.os.trans h.os, k.tape.trans h.tape, k.output.trans h.output, Nat.le_trans h.size k.size, fun i hi hs => (k.block i (Nat.lt_of_lt_of_le hi h.size) (hn i hi)).trans (h.block i hi hs)⟩
theorem of_below (h : Below w.heap.size w w') : Kept S w w' := ⟨h.os, h.tape, h.output, h.size, fun k hk _ => h.block k hk⟩
end Kept

theorem Kept.two (w : World) (b i j : Nat) (u v : Value) : Kept (fun x => x = b) w ((w.setCell ⟨b, i, none⟩ u).setCell ⟨b, j, none⟩ v) :=
  Kept.setCell (S := fun x => x = b) (p := ⟨b, j, none⟩) (Kept.setCell (S := fun x => x = b) (p := ⟨b, i, none⟩) (Kept.refl _ w) (fun _ => rfl) u) (fun _ => rfl) v

/-- The first two cells of a block. -/
def Two (w : World) (b : Nat) (u v : Value) : Prop := w.cell? ⟨b, 0, none⟩ = some u ∧ w.cell? ⟨b, 1, none⟩ = some v
theorem Two.lt {w : World} {b : Nat} {u v : Value} (h : Two w b u v) : b < w.heap.size := World.block_lt_of_cell? w ⟨b, 0, none⟩ h.1
theorem Two.kept {S : Nat → Prop} {w w' : World} {b : Nat} {u v : Value} (h : Two w b u v) (hk : Kept S w w') (hn : ¬ S b) : Two w' b u v :=
  ⟨(hk.cell (p := ⟨b, 0, none⟩) h.lt hn).trans h.1, (hk.cell (p := ⟨b, 1, none⟩) h.lt hn).trans h.2⟩
theorem Two.below {w w' : World} {b : Nat} {u v : Value} (h : Two w b u v) (hk : Below w.heap.size w w') : Two w' b u v :=
  h.kept (S := fun _ => False) (Kept.of_below hk) id
theorem Two.new (w : World) (u v : Value) (t : TypeId) : Two (w.alloc (.cells #[u, v] t)) w.heap.size u v := ⟨by simp, by simp⟩
/-- A result's block of two cells: it may be written. -/
def Box (w : World) (b : Nat) (u v : Value) : Prop := Two w b u v ∧ w.frozen? ⟨b, 0, none⟩ = false ∧ w.frozen? ⟨b, 1, none⟩ = false
theorem Box.kept {S : Nat → Prop} {w w' : World} {b : Nat} {u v : Value} (h : Box w b u v) (hk : Kept S w w') (hn : ¬ S b) : Box w' b u v :=
  ⟨h.1.kept hk hn, (hk.frozen (p := ⟨b, 0, none⟩) h.1.lt hn).trans h.2.1, (hk.frozen (p := ⟨b, 1, none⟩) h.1.lt hn).trans h.2.2⟩
theorem Box.below {w w' : World} {b : Nat} {u v : Value} (h : Box w b u v) (hk : Below w.heap.size w w') : Box w' b u v :=
  h.kept (S := fun _ => False) (Kept.of_below hk) id
theorem Box.new (w : World) (u v : Value) (t : TypeId) : Box (w.alloc (.cells #[u, v] t)) w.heap.size u v := ⟨Two.new w u v t, by simp, by simp⟩
theorem below_alloc (w : World) (o : Obj) : Below w.heap.size w (w.alloc o) := (Below.refl _ _).alloc (Nat.le_refl _) _
theorem below_next {w w' w'' : World} (h : Below w.heap.size w w') (k : Below w'.heap.size w' w'') : Below w.heap.size w w'' := h.trans (k.mono h.size)

theorem Reads.kept {k : IntKind} {S : Nat → Prop} {w w' : World} {a : Option Addr} {zs : List Int} (h : Reads k w a zs) (hk : Kept S w w') (hn : zs ≠ [] → ∀ x, a = some x → ¬ S x.block) : Reads k w' a zs := by
  intro hz
  obtain ⟨b, off, rfl, hb, hc⟩ := h hz
  exact ⟨b, off, rfl, Nat.lt_of_lt_of_le hb hk.size, fun i hi => (hk.cell (p := ⟨b, off + i, none⟩) hb (hn hz ⟨b, off, none⟩ rfl)).trans (hc i hi)⟩

theorem Reads.below {k : IntKind} {w w' : World} {a : Option Addr} {zs : List Int} (h : Reads k w a zs) (hk : Below w.heap.size w w') : Reads k w' a zs :=
  h.kept (S := fun _ => False) (Kept.of_below hk) (fun _ _ _ => id)

theorem Reads.row {k : IntKind} {w : World} {b : Nat} {t : TypeId} {n : Nat} {f : Nat → Value} {zs : List Int} (h : w.rowIs b t n f) (hn : zs.length ≤ n) (hf : ∀ i, i < zs.length → f i = .int k (zs.getD i 0)) : Reads k w (some ⟨b, 0, none⟩) zs :=
  fun _ => ⟨b, 0, rfl, h.lt, fun i hi => by rw [Nat.zero_add, h.cell (by omega), hf i hi]⟩

theorem rowIs_kept {S : Nat → Prop} {w w' : World} {b : Nat} {t : TypeId} {n : Nat} {f : Nat → Value} (h : w.rowIs b t n f) (hk : Kept S w w') (hn : ¬ S b) : w'.rowIs b t n f := h.of_block (hk.block b h.lt hn)

/-- The bytes of a list. -/
def U8 (zs : List Int) : Prop := ∀ z ∈ zs, 0 ≤ z ∧ z ≤ 255
theorem U8.get {zs : List Int} (h : U8 zs) (i : Nat) : 0 ≤ zs.getD i 0 ∧ zs.getD i 0 ≤ 255 := by
  by_cases hi : i < zs.length
  · have e : zs.getD i 0 = zs[i] := by simp [List.getD_eq_getElem?_getD, hi]
    rw [e]; exact h _ (List.getElem_mem hi)
  · have e : zs.getD i 0 = 0 := by simp [List.getD_eq_getElem?_getD, List.getElem?_eq_none (Nat.le_of_not_lt hi)]
    rw [e]; omega

theorem reads_of_row {W : World} {x : Addr} {l c : Nat} {zs : List Int} (hz : zs.length = c) (hl : l ≤ c) (hm : c ≤ maxLen) (hcell : ∀ i, i < zs.length → W.cell? (x.add i) = some (.int .u8 (zs.getD i 0))) (hwz : ∀ n ∈ zs, (Lit.int .u8 n).wf = true) :
    ∃ ys : List Int, ys.length = l ∧ Reads .u8 W (some x) ys ∧ U8 ys ∧ ys.length ≤ maxLen := by
  have hlen : (zs.take l).length = l := by simp; omega
  refine ⟨zs.take l, hlen, ?_, ?_, by omega⟩
  · intro hne
    have h0 : 0 < l := by
      rcases Nat.eq_zero_or_pos l with h | h
      · subst h; exact absurd rfl hne
      · exact h
    obtain ⟨b, off, spot⟩ := x
    have hc := hcell 0 (by omega)
    have hspot : spot = none := by simpa [Addr.add] using World.cell?_spot hc
    subst hspot
    refine ⟨b, off, rfl, World.block_lt_of_cell? W _ (by simpa [Addr.add] using hc), fun i hi => ?_⟩
    have := hcell i (by omega)
    have e : (zs.take l).getD i 0 = zs.getD i 0 := by
      have h2 : i < l := by omega
      simp [List.getD_eq_getElem?_getD, h2]
    rw [e]
    have ea : (⟨b, off, none⟩ : Addr).add i = ⟨b, off + i, none⟩ := by unfold Addr.add; split <;> simp_all
    rw [ea] at this
    exact this
  · intro z hz'
    have := hwz z (List.mem_of_mem_take hz')
    simp [Lit.wf, IntKind.min, IntKind.max, IntKind.signed, IntKind.bits] at this
    omega

theorem bcell {W w1 : World} {B : Nat} (hb : Below B W w1) : (∀ b o, b < B → w1.cell? ⟨b, o, none⟩ = W.cell? ⟨b, o, none⟩) ∧ (∀ b o, b < B → w1.frozen? ⟨b, o, none⟩ = W.frozen? ⟨b, o, none⟩) :=
  ⟨fun b o h => hb.cell (p := ⟨b, o, none⟩) h, fun b o h => hb.frozen (p := ⟨b, o, none⟩) h⟩


theorem row_step {wr : World} {B : Nat} {t : TypeId} {n k : Nat} {f z : Nat → Value} (hrow : wr.rowIs B t n (fun j => if j < k then f j else z j)) :
    (wr.setCell ⟨B, k, none⟩ (f k)).rowIs B t n (fun j => if j < k + 1 then f j else z j) :=
  (hrow.set k (f k)).congr (fun i hi => by
    by_cases e : i = k
    · subst e; simp
    · by_cases e2 : i < k
      · simp [e, e2, Nat.lt_succ_of_lt e2]
      · have : ¬ i < k + 1 := by omega
        simp [e, e2, this])


theorem row_step2 {wr : World} {B : Nat} {t : TypeId} {n k : Nat} {f z : Nat → Value} {v : Value} (hrow : wr.rowIs B t n (fun j => if j < k then f j else z j)) (hv : v = f k) :
    (wr.setCell ⟨B, k, none⟩ v).rowIs B t n (fun j => if j < k + 1 then f j else z j) := by rw [hv]; exact row_step hrow

theorem cell_set_same {w : World} {a : Addr} {v u : Value} (h : w.cell? a = some u) : (w.setCell a v).cell? a = some v :=
  World.cell?_setCell_same' w a v (by rw [h]; rfl)
theorem cell_set_other {w : World} {a b : Addr} {v : Value} (h : a ≠ b) : (w.setCell a v).cell? b = w.cell? b := by
  apply World.cell?_setCell_other; exact h
theorem cell_set_far {w : World} {b o b' o' : Nat} {v u : Value} (h : b ≠ b') (hc : w.cell? ⟨b', o', none⟩ = some u) : (w.setCell ⟨b, o, none⟩ v).cell? ⟨b', o', none⟩ = some u :=
  (World.cell?_of_block (a := ⟨b', o', none⟩) (w := w) (Below.heap_setCell w ⟨b, o, none⟩ v b' (fun e => h e.symm))).trans hc

/-- append(out, x): x laid in a block of its own, out owned: the law at that very world. -/
theorem wpList_append_one {P : Program} {wr : World} {news : Array Value} {ops : Array Oper} {rest : List Oper} {o : Oper} {a : Act} {Q : Exit → Act → World → Prop} (hgd : o.guard = none) (s x : Operand) (t : TypeId)
    (ho : o.op = .call { callee := .builtin .append, args := #[s, x], argTypes := #[t, t] })
    (base : Nat) (e : TypeId) (i : TypeInfo) (z : Value) (size bytes : Nat) (ht : P.underlying t = some (.slice e)) (hi : P.info? e = some i) (hz : i.zero = some z)
    (hsize : i.size = size) (hby : i.bytes = bytes) (hzs : z.cells.size = size) (hsz : 0 < size)
    (v : Value) (n : Nat) (xs : List Value) (hs : a.eval s = v) (hown : wr.ownsRow base e size v n xs)
    (hx : a.eval x = .slice (some ⟨wr.heap.size, 0, none⟩) 1 1) (hl : news.size = size) (h1 : ∀ u ∈ news.toList, u.oneCell' = true)
    (h63 : n + 1 ≤ maxLen) (hbytes : (n + 1) * bytes ≤ 140737488355328) (hbase : base ≤ wr.heap.size)
    (h : ∀ v' w', w'.ownsRow base e size v' (n + 1) (xs ++ news.toList) → Kept (fun b => v.ownBlock = some b) wr w' → wpList P ops Q rest (a.put o.dst v') w') :
    wpList P ops Q (o :: rest) a (wr.alloc (.cells news e)) := by
  refine wpList_append_own _ hgd s x t ho base e i z size bytes ht hi hz hsize hby hzs hsz v n xs hs (hown.alloc _) ⟨wr.heap.size, 0, none⟩ 1 1 news.toList hx (by simp [hl]) ?_ h1 h63 hbytes (by simp; omega) ?_
  · intro j u hj
    have hadd : (⟨wr.heap.size, 0, none⟩ : Addr).add j = ⟨wr.heap.size, j, none⟩ := by unfold Addr.add; split <;> simp_all
    rw [hadd, cell_of_row _ wr.heap.size j news e (0, 0) (heap_alloc_new wr _)]
    simpa using hj
  · intro v' w' ho' hg _
    refine h v' w' ho' ⟨hg.os, hg.tape, hg.output, Nat.le_trans (by simp) hg.size, fun k hk hn => ?_⟩
    rw [hg.block k (by simp; omega) (fun e => hn e.symm)]
    exact Below.heap_alloc _ _ _ hk

theorem Kept.below_own {w w' wr : World} {B : Nat} {v : Value} {e : TypeId} {size n : Nat} {xs : List Value} (hb : Below B w wr) (hB : B ≤ wr.heap.size) (hown : wr.ownsRow B e size v n xs) (hk : Kept (fun b => v.ownBlock = some b) wr w') : Below B w w' :=
  hb.trans (hk.below hB (fun k hk' he => by have := (hown.lt k he).1; omega))

theorem ownsRow_ints {w : World} {base : Nat} {e : TypeId} {v : Value} {k : IntKind} {n : Nat} {zs : List Int} (h : w.ownsRow base e 1 v n (zs.map (Value.int k))) (hn : n = zs.length) (hz : 0 < n) :
    ∃ g cap, v = .slice (some ⟨g, 0, none⟩) n cap ∧ base ≤ g ∧ g < w.heap.size ∧ (∀ i, i < n → w.cell? ⟨g, i, none⟩ = some (.int k (zs.getD i 0))) ∧ ∀ i, w.frozen? ⟨g, i, none⟩ = false := by
  obtain ⟨h1, h2⟩ := h
  rcases h2 with ⟨_, h0⟩ | ⟨g, cap, cur, rfl, hg, hh, hc, hm, hs, ht⟩
  · omega
  · refine ⟨g, cap, rfl, hg, (Array.getElem?_eq_some_iff.1 hh).1, fun i hi => ?_, fun i => by simp [World.frozen?, hh]⟩
    rw [cell_of_row w g i cur e (0, 0) hh]
    have e1 : (cur.toList.take (n * 1))[i]? = (zs.map (Value.int k))[i]? := by rw [ht]
    rw [List.getElem?_take, if_pos (by omega)] at e1
    have hi2 : i < zs.length := by omega
    simp [hi2] at e1
    simpa [List.getD_eq_getElem?_getD, hi2] using e1

theorem ownsRow_kept {S : Nat → Prop} {w w' : World} {base : Nat} {e : TypeId} {size : Nat} {v : Value} {n : Nat} {xs : List Value} (h : w.ownsRow base e size v n xs) (hk : Kept S w w') (hn : ∀ b, v.ownBlock = some b → ¬ S b) : w'.ownsRow base e size v n xs := by
  refine ⟨h.1, ?_⟩
  rcases h.2 with hz | ⟨g, cap, cur, rfl, hb, hgg, rest⟩
  · exact .inl hz
  · refine .inr ⟨g, cap, cur, rfl, hb, ?_, rest⟩
    rw [hk.block g (Array.getElem?_eq_some_iff.1 hgg).1 (hn g rfl)]
    exact hgg
theorem ownsRow_below {w w' : World} {base : Nat} {e : TypeId} {size : Nat} {v : Value} {n : Nat} {xs : List Value} (h : w.ownsRow base e size v n xs) (hk : Below w.heap.size w w') : w'.ownsRow base e size v n xs :=
  ownsRow_kept (S := fun _ => False) h (Kept.of_below hk) (fun _ _ => id)
theorem ownsRow_mono {w : World} {base base' : Nat} {e : TypeId} {size : Nat} {v : Value} {n : Nat} {xs : List Value} (h : w.ownsRow base e size v n xs) (hb : base' ≤ base) : w.ownsRow base' e size v n xs := by
  refine ⟨h.1, ?_⟩
  rcases h.2 with hz | ⟨g, cap, cur, hv, hg, rest⟩
  · exact .inl hz
  · exact .inr ⟨g, cap, cur, hv, by omega, rest⟩
theorem ownsRow_shape {w : World} {base : Nat} {e : TypeId} {size : Nat} {v : Value} {n : Nat} {xs : List Value} (h : w.ownsRow base e size v n xs) : ∃ a c, v = .slice a n c := by
  rcases h.2 with ⟨rfl, rfl⟩ | ⟨g, cap, cur, rfl, _⟩
  · exact ⟨_, _, rfl⟩
  · exact ⟨_, _, rfl⟩
/-- Rows of two element types lie in two blocks. -/
theorem ownsRow_apart {w : World} {b1 b2 : Nat} {e1 e2 : TypeId} {s1 s2 : Nat} {v1 v2 : Value} {n1 n2 : Nat} {x1 x2 : List Value} (h1 : w.ownsRow b1 e1 s1 v1 n1 x1) (h2 : w.ownsRow b2 e2 s2 v2 n2 x2) (he : e1 ≠ e2) {g : Nat} (hg1 : v1.ownBlock = some g) (hg2 : v2.ownBlock = some g) : False := by
  rcases h1.2 with ⟨rfl, _⟩ | ⟨g1, c1, cur1, rfl, _, hh1, _⟩
  · simp [Value.ownBlock] at hg1
  · rcases h2.2 with ⟨rfl, _⟩ | ⟨g2, c2, cur2, rfl, _, hh2, _⟩
    · simp [Value.ownBlock] at hg2
    · simp [Value.ownBlock] at hg1 hg2
      subst hg1 hg2
      rw [hh1] at hh2
      simp at hh2
      exact he hh2.2

/-- The slice at address a reads as the integers zs, and its cells may be written. -/
def Own (k : IntKind) (w : World) (a : Option Addr) (zs : List Int) : Prop :=
  zs ≠ [] → ∃ b off, a = some ⟨b, off, none⟩ ∧ b < w.heap.size ∧ ∀ i, i < zs.length → w.cell? ⟨b, off + i, none⟩ = some (.int k (zs.getD i 0)) ∧ w.frozen? ⟨b, off + i, none⟩ = false
/-- The block of an address. -/
def blkOf (a : Option Addr) (b : Nat) : Prop := a.map Addr.block = some b

theorem Own.reads {k : IntKind} {w : World} {a : Option Addr} {zs : List Int} (h : Own k w a zs) : Reads k w a zs := by
  intro hz
  obtain ⟨b, off, e, hb, hc⟩ := h hz
  exact ⟨b, off, e, hb, fun i hi => (hc i hi).1⟩
theorem Own.kept {k : IntKind} {S : Nat → Prop} {w w' : World} {a : Option Addr} {zs : List Int} (h : Own k w a zs) (hk : Kept S w w') (hn : ∀ b, blkOf a b → ¬ S b) : Own k w' a zs := by
  intro hz
  obtain ⟨b, off, rfl, hb, hc⟩ := h hz
  have hnb : ¬ S b := hn b rfl
  exact ⟨b, off, rfl, Nat.lt_of_lt_of_le hb hk.size, fun i hi => ⟨(hk.cell (p := ⟨b, off + i, none⟩) hb hnb).trans (hc i hi).1, (hk.frozen (p := ⟨b, off + i, none⟩) hb hnb).trans (hc i hi).2⟩⟩
theorem Own.below {k : IntKind} {w w' : World} {a : Option Addr} {zs : List Int} (h : Own k w a zs) (hk : Below w.heap.size w w') : Own k w' a zs :=
  h.kept (S := fun _ => False) (Kept.of_below hk) (fun _ _ => id)
theorem Own.row {k : IntKind} {w : World} {b : Nat} {t : TypeId} {n : Nat} {f : Nat → Value} {zs : List Int} (h : w.rowIs b t n f) (hn : zs.length ≤ n) (hf : ∀ i, i < zs.length → f i = .int k (zs.getD i 0)) : Own k w (some ⟨b, 0, none⟩) zs :=
  fun _ => ⟨b, 0, rfl, h.lt, fun i hi => ⟨by rw [Nat.zero_add, h.cell (by omega), hf i hi], h.frozen _⟩⟩

/-- Every row of cells is a row of as many cells of the same type. -/
def SameShape (w w' : World) : Prop := ∀ (g : Nat) (cur : Array Value) (t : TypeId), w.heap[g]? = some (.cells cur t (0, 0)) → ∃ cur' : Array Value, w'.heap[g]? = some (.cells cur' t (0, 0)) ∧ cur'.size = cur.size
theorem SameShape.refl (w : World) : SameShape w w := fun _ cur _ h => ⟨cur, h, rfl⟩
theorem SameShape.trans {w w' w'' : World} (h : SameShape w w') (k : SameShape w' w'') : SameShape w w'' := fun g cur t e => by
  obtain ⟨c1, e1, s1⟩ := h g cur t e
  obtain ⟨c2, e2, s2⟩ := k g c1 t e1
  exact ⟨c2, e2, s2.trans s1⟩
theorem SameShape.setCell {w w' : World} (h : SameShape w w') (b o : Nat) (v : Value) : SameShape w (w'.setCell ⟨b, o, none⟩ v) := by
  refine h.trans fun g cur t e => ?_
  by_cases hg : g = b
  · subst hg
    exact ⟨cur.setIfInBounds o v, heap_setCell_same w' g o cur t v e, by simp⟩
  · exact ⟨cur, (heap_setCell_other w' ⟨b, o, none⟩ g v hg).trans e, rfl⟩
theorem SameShape.drewN {w w' : World} (h : SameShape w w') (n : Nat) : SameShape w (w'.drewN n) := h

/-- A row whose cells have turned, and nothing else of it. -/
theorem own_back {w w' : World} {B : Nat} {e : TypeId} {g n cap : Nat} {xs ys : List Value} (h : w.ownsRow B e 1 (.slice (some ⟨g, 0, none⟩) n cap) n xs) (hs : SameShape w w') (hy : ys.length = n) (hc : ∀ i, i < n → w'.cell? ⟨g, i, none⟩ = ys[i]?) :
    w'.ownsRow B e 1 (.slice (some ⟨g, 0, none⟩) n cap) n ys := by
  refine ⟨by omega, .inr ?_⟩
  rcases h.2 with ⟨h', _⟩ | ⟨g', cap', cur, h', hb, hh, hnc, hcm, hcs, htake⟩
  · simp at h'
  · simp only [Value.slice.injEq, Option.some.injEq, Addr.mk.injEq, and_true, true_and] at h'
    obtain ⟨rfl, rfl⟩ := h'
    obtain ⟨cur', e', s'⟩ := hs g cur e hh
    refine ⟨g, cap, cur', rfl, hb, e', hnc, hcm, by omega, ?_⟩
    apply List.ext_getElem?
    intro i
    by_cases hi : i < n
    · have := hc i hi
      rw [cell_of_row w' g i cur' e (0, 0) e'] at this
      rw [List.getElem?_take, if_pos (by omega), ← this]
      simp
    · rw [List.getElem?_take, if_neg (by omega), List.getElem?_eq_none (by omega)]

theorem ownsRow_of_row {w : World} {B b : Nat} {t : TypeId} {k : IntKind} {zs : List Int} (h : w.rowIs b t zs.length (fun i => .int k (zs.getD i 0))) (hb : B ≤ b) (hm : zs.length ≤ maxLen) :
    w.ownsRow B t 1 (.slice (some ⟨b, 0, none⟩) zs.length zs.length) zs.length (zs.map (Value.int k)) := by
  obtain ⟨c, hh, hs, hc⟩ := h
  refine ⟨by simp, .inr ⟨b, zs.length, c, rfl, hb, hh, Nat.le_refl _, hm, by omega, ?_⟩⟩
  apply List.ext_getElem?
  intro i
  by_cases hi : i < zs.length
  · rw [List.getElem?_take, if_pos (by omega)]
    have := hc i hi
    simp [List.getD_eq_getElem?_getD, hi] at this ⊢
    exact this
  · rw [List.getElem?_take, if_neg (by omega), List.getElem?_eq_none (by simpa using hi)]

/-- What is written into a list of n cells of kind u8, from k on. -/
def marks (k : Int) (n : Nat) : List Int := (List.range n).map fun (i : Nat) => (k + i) % 256
theorem marks_length (k : Int) (n : Nat) : (marks k n).length = n := by simp [marks]
theorem marks_getD (k : Int) (n i : Nat) (h : i < n) : (marks k n).getD i 0 = (k + i) % 256 := by simp [marks, List.getD_eq_getElem?_getD, h]

theorem take_eq_step {xs ys : List Int} {k : Nat} (h1 : k < xs.length) (h2 : k < ys.length) (h : xs.take k = ys.take k) (e : xs.getD k 0 = ys.getD k 0) : xs.take (k + 1) = ys.take (k + 1) := by
  rw [List.take_succ_eq_append_getElem h1, List.take_succ_eq_append_getElem h2, h]
  simp [List.getD_eq_getElem?_getD, h1, h2] at e
  rw [e]
theorem ne_of_getD {xs ys : List Int} {k : Nat} (e : xs.getD k 0 ≠ ys.getD k 0) : (xs == ys) = false := by
  simp only [beq_eq_false_iff_ne]
  intro h
  exact e (by rw [h])
theorem eq_of_take {xs ys : List Int} {k : Nat} (hk : xs.length ≤ k) (hk2 : ys.length ≤ k) (h : xs.take k = ys.take k) : (xs == ys) = true := by
  rw [List.take_of_length_le hk, List.take_of_length_le hk2] at h
  simp [h]


/-- A world that is of Inv. -/
structure InW (Inv : World → Prop) where
  val : World
  ok : Inv val
/-- A region that draws its order, each operation of which yields one value in every world of Inv and leaves one of Inv: one walk of the text's order serves. -/
theorem wp_region_inv {P : Program} {Inv : World → Prop} {id : Nat} {Q : Exit → Act → World → Prop} {a : Act} {w : World} {l : List Oper} (hm : P.follows .mixedOrders = true) (hB : Region.lexB .any l.toArray = true) (h0 : Inv w.drew)
    (h : wpQuiet P l.toArray (fun w' => ∃ u : InW Inv, w' = u.val) (fun a' => ∀ w', (∃ u : InW Inv, w' = u.val) → Q .normal a' w') l a) : (Code.region id l.toArray true).wp P Q a w :=
  wp_region_quiet (C := fun w' => ∃ u : InW Inv, w' = u.val) hm hB ⟨⟨_, h0⟩, rfl⟩ (by simpa using h)
theorem calls_inv {P : Program} {Inv : World → Prop} {f : FuncId} {args : Array Value} {w : World} {v : Value} (h : Calls P f args w fun e w' => e = .returned v ∧ Inv w') :
    Calls P f args w fun e w'' => e = .returned v ∧ ∃ u : InW Inv, w'' = u.val :=
  h.mono fun _ w' ⟨he, hi⟩ => ⟨he, ⟨⟨w', hi⟩, rfl⟩⟩

theorem ownsRow_cap {w : World} {base : Nat} {e : TypeId} {size : Nat} {a : Option Addr} {n c : Nat} {xs : List Value} (h : w.ownsRow base e size (.slice a n c) n xs) : n ≤ c := by
  rcases h.2 with ⟨h', rfl⟩ | ⟨g, cap, cur, h', _, _, hc, _⟩
  · omega
  · simp only [Value.slice.injEq, true_and] at h'
    omega

/-- How many cells stand ahead of slice i. -/
def ahead (P : Nat → List Int) : Nat → Nat
  | 0 => 0
  | i + 1 => ahead P i + (P i).length

theorem ahead_le (P : Nat → List Int) {i j : Nat} (h : i ≤ j) : ahead P i ≤ ahead P j := by
  induction j with
  | zero => have : i = 0 := by omega
            subst this; exact Nat.le_refl _
  | succ j ih =>
    by_cases e : i = j + 1
    · subst e; exact Nat.le_refl _
    · have := ih (by omega)
      simp only [ahead]; omega

theorem ownsRow_own {w : World} {B : Nat} {e : TypeId} {k : IntKind} {a : Option Addr} {n c : Nat} {zs : List Int} (h : w.ownsRow B e 1 (.slice a n c) n (zs.map (Value.int k))) (hn : n = zs.length) : Own k w a zs := by
  intro hz
  have h0 : 0 < n := by rw [hn]; exact List.length_pos_iff.2 hz
  rcases h.2 with ⟨h', _⟩ | ⟨g, cap, cur, h', hb, hh, hnc, hcm, hcs, htake⟩
  · simp only [Value.slice.injEq] at h'
    omega
  · simp only [Value.slice.injEq, true_and] at h'
    obtain ⟨rfl, rfl⟩ := h'
    refine ⟨g, 0, rfl, (h.lt g rfl).2, fun i hi => ⟨?_, h.frozenAt _⟩⟩
    rw [Nat.zero_add, h.cellAt i (by omega)]
    simp [List.getD_eq_getElem?_getD, hi]

end Go.Proofs.YtlbccbikepkfiaaGreatDoor

namespace Go.Proofs.YtlbccbikepkfiaaGreatDoor
open Go.RowKit
set_option linter.unusedVariables false

theorem Tryz.infoU8 : (Tryz.prog.info? 5).map (fun i => (i.zero, i.size, i.bytes)) = some (some (.int .u8 0), 1, 1) := by kernel_rfl


/-- One store of a walk that writes a row cell by cell. -/
theorem own_step {w : World} {b off j n : Nat} {k : IntKind} {f g : Nat → Int} {v : Int} (h : ∀ t, t < n → w.cell? ⟨b, off + t, none⟩ = some (.int k (if t < j then f t else g t)) ∧ w.frozen? ⟨b, off + t, none⟩ = false) (hj : j < n) (hv : v = f j) :
    ∀ t, t < n → (w.setCell ⟨b, off + j, none⟩ (.int k v)).cell? ⟨b, off + t, none⟩ = some (.int k (if t < j + 1 then f t else g t)) ∧ (w.setCell ⟨b, off + j, none⟩ (.int k v)).frozen? ⟨b, off + t, none⟩ = false := by
  intro t ht
  obtain ⟨h1, h2⟩ := h t ht
  refine ⟨?_, by rw [World.frozen?_setCell]; exact h2⟩
  by_cases e : t = j
  · subst e
    rw [cell_set_same (h t hj).1, if_pos (by omega), hv]
  · rw [cell_set_other (fun c => e (Nat.add_left_cancel (show off + j = off + t from congrArg Addr.off c)).symm), h1]
    by_cases e2 : t < j
    · rw [if_pos e2, if_pos (by omega)]
    · rw [if_neg e2, if_neg (by omega)]

end Go.Proofs.YtlbccbikepkfiaaGreatDoor

namespace Go.Proofs.YtlbccbikepkfiaaGreatDoor
open Go.RowKit
set_option linter.unusedVariables false
set_option maxRecDepth 100000

def hexL : List Int := [48, 49, 50, 51, 52, 53, 54, 55, 56, 57, 97, 98, 99, 100, 101, 102]
/-- Digit i, the highest first. -/
def dg (n : Int) (i : Nat) : Int := n * (16 : Int) ^ i % 4294967296 / 268435456
def hexList (n : Int) : List Int := (List.range 8).map fun i => hexL.getD (dg n i).toNat 0
def hexText (n : Int) : ByteArray := strOfNums (hexList n)

theorem hexList_getD (n : Int) (i : Nat) (hi : i < 8) : (hexList n).getD i 0 = hexL.getD (dg n i).toNat 0 := by
  simp [hexList, List.getD_eq_getElem?_getD, hi]
theorem hex_at : ∀ (d : Nat) (h : d < (⟨#[48, 49, 50, 51, 52, 53, 54, 55, 56, 57, 97, 98, 99, 100, 101, 102]⟩ : ByteArray).size), (((⟨#[48, 49, 50, 51, 52, 53, 54, 55, 56, 57, 97, 98, 99, 100, 101, 102]⟩ : ByteArray)[d]'h).toNat : Int) = hexL.getD d 0 
  | 0, _ | 1, _ | 2, _ | 3, _ | 4, _ | 5, _ | 6, _ | 7, _ | 8, _ | 9, _ | 10, _ | 11, _ | 12, _ | 13, _ | 14, _ | 15, _ => rfl
  | d + 16, h => absurd (show d + 16 < 16 from h) (by omega)

theorem implIsDigest_yes (n : Int) (w : World) (h0 : 0 ≤ n) (h1 : n ≤ 4294967295) :
    Calls Tryz.prog 91 #[.int .i64 n] w fun e w' => e = .returned (.bool true) ∧ w' = w := by
  go_enter Tryz.func91, Tryz.ntmps91
  go_wp2
  go_ret
  exact ⟨rfl, rfl⟩

theorem implIsDigest_no (n : Int) (w : World) (h : n < 0 ∨ 4294967295 < n) :
    Calls Tryz.prog 91 #[.int .i64 n] w fun e w' => e = .returned (.bool false) ∧ w' = w := by
  rcases h with h | h
  · go_enter Tryz.func91, Tryz.ntmps91
    go_wp2
    go_ret
    exact ⟨rfl, rfl⟩
  · have h0 : 0 ≤ n := by omega
    have h1 : ¬ n ≤ 4294967295 := by omega
    go_enter Tryz.func91, Tryz.ntmps91
    go_wp2
    go_ret
    exact ⟨rfl, rfl⟩

theorem dg_step (n : Int) (k : Nat) : n * (16 : Int) ^ k % 4294967296 * 16 % 4294967296 = n * (16 : Int) ^ (k + 1) % 4294967296 := by
  rw [Int.pow_succ, ← Int.mul_assoc]
  generalize n * (16 : Int) ^ k = y
  omega
theorem dg_range (n : Int) (k : Nat) : 0 ≤ n * (16 : Int) ^ k % 4294967296 ∧ n * (16 : Int) ^ k % 4294967296 ≤ 4294967295 := by
  generalize n * (16 : Int) ^ k = y
  omega

theorem rowIs_zero8 (w : World) (t : TypeId) : (w.alloc (.cells #[.int .u8 0, .int .u8 0, .int .u8 0, .int .u8 0, .int .u8 0, .int .u8 0, .int .u8 0, .int .u8 0] t)).rowIs w.heap.size t 8 (fun _ => .int .u8 0) :=
  World.rowIs_alloc w _ t _ (fun i hi => by
    have h8 : i < 8 := hi
    match i, h8 with
    | 0, _ | 1, _ | 2, _ | 3, _ | 4, _ | 5, _ | 6, _ | 7, _ => rfl)

set_option maxHeartbeats 400000 in
theorem implHexText_ok (n : Int) (w : World) (h0 : 0 ≤ n) (h1 : n ≤ 4294967295) :
    Calls Tryz.prog 96 #[.int .i64 n] w fun e w' => e = .returned (.agg #[.int .i64 0, .string (hexText n)]) ∧ Below w.heap.size w w' := by
  go_enter Tryz.func96, Tryz.ntmps96
  go_wp2_with (go_at_call 91; refine (implIsDigest_yes _ _ h0 h1).mono ?_; rintro e w' ⟨rfl, rfl⟩)
  go_loopw [3, 5, 12] (fun h _ i wr => ∃ k : Nat, ∃ x : Int, k ≤ 8 ∧ i = .int .i64 k ∧ h = .int .u32 x ∧ x = n * (16 : Int) ^ k % 4294967296 ∧ wr.cell? ⟨w.heap.size, 0, none⟩ = some (.int .i64 0) ∧ wr.cell? ⟨w.heap.size, 1, none⟩ = some (.string ⟨#[]⟩) ∧ wr.frozen? ⟨w.heap.size, 0, none⟩ = false ∧ wr.frozen? ⟨w.heap.size, 1, none⟩ = false ∧ wr.rowIs (w.heap.size + 1) 151 8 (fun j => if j < k then .int .u8 ((hexList n).getD j 0) else .int .u8 0) ∧ Below w.heap.size w wr) (fun _ _ i _ => 8 - (intOf i).toNat)
  case atStart =>
    refine ⟨0, n, Nat.zero_le _, rfl, rfl, by simp; omega, by simp, by simp, by simp, by simp, ?_, ?_⟩
    · have := (rowIs_zero8 (w.alloc (Obj.cells #[Value.int IntKind.i64 0, Value.string ⟨#[]⟩] 35)) 151).congr (g := fun j => if j < 0 then .int .u8 ((hexList n).getD j 0) else .int .u8 0) (by simp)
      simpa using this
    · exact ((Below.refl _ _).alloc (Nat.le_refl _) _).alloc (by simp) _
  case round =>
    obtain ⟨k, x, hk, rfl, rfl, hxe, q0, q1, q2, q3, hrow, hbel⟩ := hrel
    have hx01 := dg_range n k
    rw [← hxe] at hx01
    by_cases hlt : k < 8
    · have hc0 := hrow.cell hlt
      rw [if_neg (by omega)] at hc0
      have hf := hrow.frozen k
      have HR := hide hrow
      have HB := hide hbel
      have HX := hide hxe
      clear hrow hbel hxe
      go_wp2
      go_roundw
      case rel =>
        refine ⟨k + 1, _, by omega, by go_num, rfl, by rw [← dg_step, ← HX.out], ?_, ?_, ?_, ?_, row_step2 (f := fun j => .int .u8 ((hexList n).getD j 0)) (z := fun _ => .int .u8 0) HR.out ?_, HB.out.setCell (by simp) _⟩
        · exact cell_set_far (by omega) q0
        · exact cell_set_far (by omega) q1
        · rw [World.frozen?_setCell]; exact q2
        · rw [World.frozen?_setCell]; exact q3
        · rw [hexList_getD n k hlt, hex_at]
          unfold dg
          rw [← HX.out]
      case measure => simp [intOf]; omega
    · have hconv := run_convert_bytes_arg (P := Tryz.prog) wr 22 5 Tryz.underlying22 Tryz.underlying5 (w.heap.size + 1) 0 8 8 (hexList n) (by simp [hexList]) (fun i hi => by rw [Nat.zero_add, hrow.cell hi, if_pos (by omega)]) 9 Tryz.underlying9
      have HR := hide hrow
      have HB := hide hbel
      have HX := hide hxe
      clear hrow hbel hxe
      go_wp2
      exact bodyPost_ret (v := .agg #[.int .i64 0, .string (hexText n)]) (by simp [results, Tryz.results96, go_sem, q0, q1, hexText]) rfl ⟨rfl, (HB.out.setCell (Nat.le_refl _) _).setCell (Nat.le_refl _) _⟩

set_option maxHeartbeats 400000 in
theorem implHexText_no (n : Int) (w : World) (h : n < 0 ∨ 4294967295 < n) :
    Calls Tryz.prog 96 #[.int .i64 n] w fun e w' => e = .returned (.agg #[.int .i64 3, .string ⟨#[]⟩]) ∧ Below w.heap.size w w' := by
  go_enter Tryz.func96, Tryz.ntmps96
  go_wp2_with (go_at_call 91; refine (implIsDigest_no _ _ h).mono ?_; rintro e w' ⟨rfl, rfl⟩)
  exact bodyPost_ret (v := .agg #[.int .i64 3, .string ⟨#[]⟩]) (by simp [results, Tryz.results96, go_sem]) rfl ⟨rfl, (Below.refl _ _).alloc (Nat.le_refl _) _⟩

theorem specl1Digest_yes (n : Int) (w : World) (h0 : 0 ≤ n) (h1 : n ≤ 4294967295) :
    Calls Tryz.prog 84 #[.int .i64 n] w fun e w' => e = .returned (.bool true) ∧ w' = w := by
  go_enter Tryz.func84, Tryz.ntmps84
  go_wp2
  go_ret
  exact ⟨rfl, rfl⟩

theorem specl1Digest_no (n : Int) (w : World) (h : n < 0 ∨ 4294967295 < n) :
    Calls Tryz.prog 84 #[.int .i64 n] w fun e w' => e = .returned (.bool false) ∧ w' = w := by
  rcases h with h | h
  · go_enter Tryz.func84, Tryz.ntmps84
    go_wp2
    go_ret
    exact ⟨rfl, rfl⟩
  · have h0 : 0 ≤ n := by omega
    have h1 : ¬ n ≤ 4294967295 := by omega
    go_enter Tryz.func84, Tryz.ntmps84
    go_wp2
    go_ret
    exact ⟨rfl, rfl⟩

theorem i64_and15 (n : Int) : bits .and .i64 n 15 = n % 16 := by
  have h15 : (BitVec.ofInt 64 15).toNat = 2 ^ 4 - 1 := by decide
  have key : (BitVec.ofInt 64 n &&& BitVec.ofInt 64 15).toNat = (n % ((2 ^ 64 : Nat) : Int)).toNat % 2 ^ 4 := by
    rw [BitVec.toNat_and, BitVec.toNat_ofInt, h15, Nat.and_two_pow_sub_one_eq_mod]
  show IntKind.i64.wrap ((BitVec.ofInt 64 n &&& BitVec.ofInt 64 15).toNat : Nat) = n % 16
  rw [key, IntKind.wrap_i64]
  omega

theorem dg0 (n : Int) (h0 : 0 ≤ n) (h1 : n ≤ 4294967295) : dg n 0 = n / 268435456 % 16 := by simp only [dg]; omega
theorem dg1 (n : Int) (h0 : 0 ≤ n) (h1 : n ≤ 4294967295) : dg n 1 = n / 16777216 % 16 := by simp only [dg]; omega
theorem dg2 (n : Int) (h0 : 0 ≤ n) (h1 : n ≤ 4294967295) : dg n 2 = n / 1048576 % 16 := by simp only [dg]; omega
theorem dg3 (n : Int) (h0 : 0 ≤ n) (h1 : n ≤ 4294967295) : dg n 3 = n / 65536 % 16 := by simp only [dg]; omega
theorem dg4 (n : Int) (h0 : 0 ≤ n) (h1 : n ≤ 4294967295) : dg n 4 = n / 4096 % 16 := by simp only [dg]; omega
theorem dg5 (n : Int) (h0 : 0 ≤ n) (h1 : n ≤ 4294967295) : dg n 5 = n / 256 % 16 := by simp only [dg]; omega
theorem dg6 (n : Int) (h0 : 0 ≤ n) (h1 : n ≤ 4294967295) : dg n 6 = n / 16 % 16 := by simp only [dg]; omega
theorem dg7 (n : Int) (h0 : 0 ≤ n) (h1 : n ≤ 4294967295) : dg n 7 = n % 16 := by simp only [dg]; omega

theorem hex_push {n : Int} {k : Nat} {x : Int} (hk : k < 8) (hx : x = hexL.getD (dg n k).toNat 0) :
    ((hexList n).take k).map (Value.int .u8) ++ [Value.int .u8 x] = ((hexList n).take (k + 1)).map (Value.int .u8) := by
  have hl : k < (hexList n).length := by simpa [hexList] using hk
  rw [List.take_succ_eq_append_getElem hl, List.map_append]
  have : (hexList n)[k] = x := by
    rw [hx, ← hexList_getD n k hk]; simp [List.getD_eq_getElem?_getD, hl]
  simp [this]

set_option maxHeartbeats 1600000 in
theorem specl1Hex_any (n : Int) (w : World) (h0 : 0 ≤ n) (h1 : n ≤ 4294967295) :
    Calls Tryz.prog 104 #[.int .i64 n] w fun e w' => e = .returned (.string (hexText n)) ∧ Below w.heap.size w w' := by
  obtain ⟨i0, hi, hz0, hz1, hz2⟩ := info_parts Tryz.infoU8
  go_enter Tryz.func104, Tryz.ntmps104
  go_wp2
  go_loopw [3, 4] (fun v i wr => ∃ k : Nat, k ≤ 8 ∧ i = .int .i64 (7 - k) ∧ wr.ownsRow w.heap.size 5 1 v k (((hexList n).take k).map (Value.int .u8)) ∧ Below w.heap.size w wr) (fun _ i _ => (intOf i + 1).toNat)
  case atStart => exact ⟨0, Nat.zero_le _, rfl, World.ownsRow_made w #[] 0 (Nat.le_refl _) (Nat.zero_le _) rfl, (Below.refl _ _).alloc (Nat.le_refl _) _⟩
  case round =>
    obtain ⟨k, hk, rfl, hown, hbel⟩ := hrel
    have hand := i64_and15
    have hsz := hbel.size
    by_cases hlt : k < 8
    · rcases (show k = 0 ∨ k = 1 ∨ k = 2 ∨ k = 3 ∨ k = 4 ∨ k = 5 ∨ k = 6 ∨ k = 7 from by omega) with rfl | rfl | rfl | rfl | rfl | rfl | rfl | rfl
      · go_wp2_with (at_builtin; refine wpList_append_one rfl (.tmp 10) (.tmp 18) 22 rfl w.heap.size 5 i0 (.int .u8 0) 1 1 Tryz.underlying22 hi hz0 hz1 hz2 rfl (by decide) _ _ _ rfl hown rfl rfl ?_ ?_ ?_ hsz ?_)
        · first | rfl | (intro u hu; simp at hu; subst hu; rfl)
        · decide
        · decide
        · intro v' w' hown' hkept
          have hbel' := Kept.below_own hbel hsz hown hkept
          rw [hex_at, ← dg0 n h0 h1] at hown'
          have hown2 : w'.ownsRow w.heap.size 5 1 v' 1 (((hexList n).take 1).map (Value.int .u8)) := by rw [← hex_push (n := n) (k := 0) (by decide) rfl]; exact hown'
          have H1 := hide hown2
          have H2 := hide hbel'
          clear hown2 hbel' hown' hkept hown hbel
          go_wp2
          go_roundw
          case rel => exact ⟨1, by decide, by simp, H1.out, H2.out⟩
          case measure => simp [intOf]
      · go_wp2_with (at_builtin; refine wpList_append_one rfl (.tmp 10) (.tmp 18) 22 rfl w.heap.size 5 i0 (.int .u8 0) 1 1 Tryz.underlying22 hi hz0 hz1 hz2 rfl (by decide) _ _ _ rfl hown rfl rfl ?_ ?_ ?_ hsz ?_)
        · first | rfl | (intro u hu; simp at hu; subst hu; rfl)
        · decide
        · decide
        · intro v' w' hown' hkept
          have hbel' := Kept.below_own hbel hsz hown hkept
          rw [hex_at, ← dg1 n h0 h1] at hown'
          have hown2 : w'.ownsRow w.heap.size 5 1 v' 2 (((hexList n).take 2).map (Value.int .u8)) := by rw [← hex_push (n := n) (k := 1) (by decide) rfl]; exact hown'
          have H1 := hide hown2
          have H2 := hide hbel'
          clear hown2 hbel' hown' hkept hown hbel
          go_wp2
          go_roundw
          case rel => exact ⟨2, by decide, by simp, H1.out, H2.out⟩
          case measure => simp [intOf]
      · go_wp2_with (at_builtin; refine wpList_append_one rfl (.tmp 10) (.tmp 18) 22 rfl w.heap.size 5 i0 (.int .u8 0) 1 1 Tryz.underlying22 hi hz0 hz1 hz2 rfl (by decide) _ _ _ rfl hown rfl rfl ?_ ?_ ?_ hsz ?_)
        · first | rfl | (intro u hu; simp at hu; subst hu; rfl)
        · decide
        · decide
        · intro v' w' hown' hkept
          have hbel' := Kept.below_own hbel hsz hown hkept
          rw [hex_at, ← dg2 n h0 h1] at hown'
          have hown2 : w'.ownsRow w.heap.size 5 1 v' 3 (((hexList n).take 3).map (Value.int .u8)) := by rw [← hex_push (n := n) (k := 2) (by decide) rfl]; exact hown'
          have H1 := hide hown2
          have H2 := hide hbel'
          clear hown2 hbel' hown' hkept hown hbel
          go_wp2
          go_roundw
          case rel => exact ⟨3, by decide, by simp, H1.out, H2.out⟩
          case measure => simp [intOf]
      · go_wp2_with (at_builtin; refine wpList_append_one rfl (.tmp 10) (.tmp 18) 22 rfl w.heap.size 5 i0 (.int .u8 0) 1 1 Tryz.underlying22 hi hz0 hz1 hz2 rfl (by decide) _ _ _ rfl hown rfl rfl ?_ ?_ ?_ hsz ?_)
        · first | rfl | (intro u hu; simp at hu; subst hu; rfl)
        · decide
        · decide
        · intro v' w' hown' hkept
          have hbel' := Kept.below_own hbel hsz hown hkept
          rw [hex_at, ← dg3 n h0 h1] at hown'
          have hown2 : w'.ownsRow w.heap.size 5 1 v' 4 (((hexList n).take 4).map (Value.int .u8)) := by rw [← hex_push (n := n) (k := 3) (by decide) rfl]; exact hown'
          have H1 := hide hown2
          have H2 := hide hbel'
          clear hown2 hbel' hown' hkept hown hbel
          go_wp2
          go_roundw
          case rel => exact ⟨4, by decide, by simp, H1.out, H2.out⟩
          case measure => simp [intOf]
      · go_wp2_with (at_builtin; refine wpList_append_one rfl (.tmp 10) (.tmp 18) 22 rfl w.heap.size 5 i0 (.int .u8 0) 1 1 Tryz.underlying22 hi hz0 hz1 hz2 rfl (by decide) _ _ _ rfl hown rfl rfl ?_ ?_ ?_ hsz ?_)
        · first | rfl | (intro u hu; simp at hu; subst hu; rfl)
        · decide
        · decide
        · intro v' w' hown' hkept
          have hbel' := Kept.below_own hbel hsz hown hkept
          rw [hex_at, ← dg4 n h0 h1] at hown'
          have hown2 : w'.ownsRow w.heap.size 5 1 v' 5 (((hexList n).take 5).map (Value.int .u8)) := by rw [← hex_push (n := n) (k := 4) (by decide) rfl]; exact hown'
          have H1 := hide hown2
          have H2 := hide hbel'
          clear hown2 hbel' hown' hkept hown hbel
          go_wp2
          go_roundw
          case rel => exact ⟨5, by decide, by simp, H1.out, H2.out⟩
          case measure => simp [intOf]
      · go_wp2_with (at_builtin; refine wpList_append_one rfl (.tmp 10) (.tmp 18) 22 rfl w.heap.size 5 i0 (.int .u8 0) 1 1 Tryz.underlying22 hi hz0 hz1 hz2 rfl (by decide) _ _ _ rfl hown rfl rfl ?_ ?_ ?_ hsz ?_)
        · first | rfl | (intro u hu; simp at hu; subst hu; rfl)
        · decide
        · decide
        · intro v' w' hown' hkept
          have hbel' := Kept.below_own hbel hsz hown hkept
          rw [hex_at, ← dg5 n h0 h1] at hown'
          have hown2 : w'.ownsRow w.heap.size 5 1 v' 6 (((hexList n).take 6).map (Value.int .u8)) := by rw [← hex_push (n := n) (k := 5) (by decide) rfl]; exact hown'
          have H1 := hide hown2
          have H2 := hide hbel'
          clear hown2 hbel' hown' hkept hown hbel
          go_wp2
          go_roundw
          case rel => exact ⟨6, by decide, by simp, H1.out, H2.out⟩
          case measure => simp [intOf]
      · go_wp2_with (at_builtin; refine wpList_append_one rfl (.tmp 10) (.tmp 18) 22 rfl w.heap.size 5 i0 (.int .u8 0) 1 1 Tryz.underlying22 hi hz0 hz1 hz2 rfl (by decide) _ _ _ rfl hown rfl rfl ?_ ?_ ?_ hsz ?_)
        · first | rfl | (intro u hu; simp at hu; subst hu; rfl)
        · decide
        · decide
        · intro v' w' hown' hkept
          have hbel' := Kept.below_own hbel hsz hown hkept
          rw [hex_at, ← dg6 n h0 h1] at hown'
          have hown2 : w'.ownsRow w.heap.size 5 1 v' 7 (((hexList n).take 7).map (Value.int .u8)) := by rw [← hex_push (n := n) (k := 6) (by decide) rfl]; exact hown'
          have H1 := hide hown2
          have H2 := hide hbel'
          clear hown2 hbel' hown' hkept hown hbel
          go_wp2
          go_roundw
          case rel => exact ⟨7, by decide, by simp, H1.out, H2.out⟩
          case measure => simp [intOf]
      · go_wp2_with (at_builtin; refine wpList_append_one rfl (.tmp 10) (.tmp 18) 22 rfl w.heap.size 5 i0 (.int .u8 0) 1 1 Tryz.underlying22 hi hz0 hz1 hz2 rfl (by decide) _ _ _ rfl hown rfl rfl ?_ ?_ ?_ hsz ?_)
        · first | rfl | (intro u hu; simp at hu; subst hu; rfl)
        · decide
        · decide
        · intro v' w' hown' hkept
          have hbel' := Kept.below_own hbel hsz hown hkept
          rw [hex_at, ← dg7 n h0 h1] at hown'
          have hown2 : w'.ownsRow w.heap.size 5 1 v' 8 (((hexList n).take 8).map (Value.int .u8)) := by rw [← hex_push (n := n) (k := 7) (by decide) rfl]; exact hown'
          have H1 := hide hown2
          have H2 := hide hbel'
          clear hown2 hbel' hown' hkept hown hbel
          go_wp2
          go_roundw
          case rel => exact ⟨8, by decide, by simp, H1.out, H2.out⟩
          case measure => simp [intOf]
    · have hk8 : k = 8 := by omega
      subst hk8
      obtain ⟨g, cap, rfl, hg, hgl, hcell, hfz⟩ := ownsRow_ints hown (by simp [hexList]) (by decide)
      have e8 : (hexList n).take 8 = hexList n := List.take_of_length_le (by simp [hexList])
      have hconv := run_convert_bytes_arg (P := Tryz.prog) wr 22 5 Tryz.underlying22 Tryz.underlying5 g 0 8 cap (hexList n) (by simp [hexList]) (fun i hi => by rw [Nat.zero_add, hcell i hi, e8]) 9 Tryz.underlying9
      clear hown hcell hfz e8 hand
      go_wp2
      go_ret
      exact ⟨rfl, hbel⟩



end Go.Proofs.YtlbccbikepkfiaaGreatDoor

namespace Go.Proofs.YtlbccbikepkfiaaGreatDoor
open Go.RowKit
set_option linter.unusedVariables false
set_option maxRecDepth 100000

/-- What a digit tells. -/
def hv (c : Int) : Option Int := if 48 ≤ c ∧ c ≤ 57 then some (c - 48) else if 97 ≤ c ∧ c ≤ 102 then some (c - 87) else none
def pvStep (a : Option Int) (c : UInt8) : Option Int := a.bind fun x => (hv c.toNat).map fun d => x * 16 + d
def pv (l : List UInt8) : Option Int := l.foldl pvStep (some 0)

theorem pv_none (l : List UInt8) : l.foldl pvStep none = none := by
  induction l with
  | nil => rfl
  | cons a l ih => exact ih
theorem pv_step (s : ByteArray) (k : Nat) (h : k < s.size) : pv (s.data.toList.take (k + 1)) = pvStep (pv (s.data.toList.take k)) s[k] := by
  unfold pv
  rw [List.take_succ_eq_append_getElem (by simpa using h), List.foldl_append]
  rfl
theorem pv_stop (s : ByteArray) (k : Nat) (h : pv (s.data.toList.take k) = none) : pv s.data.toList = none := by
  have e : s.data.toList = s.data.toList.take k ++ s.data.toList.drop k := (List.take_append_drop k _).symm
  unfold pv at h ⊢
  rw [e, List.foldl_append, h, pv_none]
theorem hv_yes1 {c : Int} (h : 48 ≤ c) (h2 : c ≤ 57) : hv c = some (c - 48) := by simp [hv, h, h2]
theorem hv_yes2 {c : Int} (h : 97 ≤ c) (h2 : c ≤ 102) : hv c = some (c - 87) := by
  have : ¬ (48 ≤ c ∧ c ≤ 57) := by omega
  simp only [hv, if_neg this, if_pos (And.intro h h2)]
theorem hv_no {c : Int} (h : ¬ (48 ≤ c ∧ c ≤ 57)) (h2 : ¬ (97 ≤ c ∧ c ≤ 102)) : hv c = none := by
  simp only [hv, if_neg h, if_neg h2]

theorem pv_go {s : ByteArray} {k : Nat} {x d : Int} (h : k < s.size) (hp : pv (s.data.toList.take k) = some x) (hd : hv s[k].toNat = some d) : pv (s.data.toList.take (k + 1)) = some (x * 16 + d) := by
  rw [pv_step s k h, hp]; simp [pvStep, hd]
theorem pv_die {s : ByteArray} {k : Nat} {x : Int} (h : k < s.size) (hp : pv (s.data.toList.take k) = some x) (hd : hv s[k].toNat = none) : pv s.data.toList = none := by
  refine pv_stop s (k + 1) ?_
  rw [pv_step s k h, hp]; simp [pvStep, hd]
theorem pv_end {s : ByteArray} {k : Nat} {o : Option Int} (h : s.size ≤ k) (hp : pv (s.data.toList.take k) = o) : pv s.data.toList = o := by
  rw [List.take_of_length_le (by simpa using h)] at hp; exact hp
theorem pow_go {k : Nat} {x d : Int} (hx : x < 16 ^ k) (hd : d ≤ 15) : x * 16 + d < 16 ^ (k + 1) := by
  rw [Int.pow_succ]; omega
theorem pow_7 {k : Nat} {x : Int} (hk : k < 8) (hx : x < 16 ^ k) : x ≤ 268435455 := by
  have : (16 : Int) ^ k ≤ 16 ^ 7 := by
    have := Nat.pow_le_pow_right (n := 16) (by decide) (show k ≤ 7 by omega)
    exact_mod_cast this
  omega
theorem or_join (x d : Int) (h0 : 0 ≤ x) (h1 : x ≤ 268435455) (d0 : 0 ≤ d) (d1 : d ≤ 15) : bits .or .u32 (x * 16) d = x * 16 + d :=
  bits_join .u32 32 (by decide) (fun n a b => by rw [IntKind.wrap_u32]; omega) 4 (x * 16) d (by omega) (by omega) (by omega) d0 (by omega) (by omega)
theorem ret_pair {a b : Int} {c d : Bool} (h : a = b) (h2 : c = d) : Ending.returned (.tuple #[.int .i64 a, .bool c]) = .returned (.tuple #[.int .i64 b, .bool d]) := by rw [h, h2]
theorem hv_cases (c : Int) (h0 : 0 ≤ c) : (∃ d, hv c = some d ∧ 0 ≤ d ∧ d ≤ 15) ∨ hv c = none := by
  by_cases h1 : 48 ≤ c ∧ c ≤ 57
  · exact .inl ⟨_, hv_yes1 h1.1 h1.2, by omega, by omega⟩
  · by_cases h2 : 97 ≤ c ∧ c ≤ 102
    · exact .inl ⟨_, hv_yes2 h2.1 h2.2, by omega, by omega⟩
    · exact .inr (hv_no h1 h2)

theorem index_hv : ∀ n : Fin 256, Lib.indexByte [48, 49, 50, 51, 52, 53, 54, 55, 56, 57, 97, 98, 99, 100, 101, 102] n.val.toUInt8 = (hv n.val).getD (-1) := by decide +kernel

set_option maxRecDepth 100000 in
theorem indexByte_any (c : UInt8) (w : World) :
    Calls Tryz.prog 122 #[.string ⟨#[48, 49, 50, 51, 52, 53, 54, 55, 56, 57, 97, 98, 99, 100, 101, 102]⟩, .int .u8 c.toNat] w fun e w' => e = .returned (.int .i64 ((hv c.toNat).getD (-1))) ∧ w' = w := by
  go_enter Tryz.func122, Tryz.ntmps122
  go_wp2
  rw [run_callFunc_extern Tryz.func138 (by kernel_rfl) (by kernel_rfl) (by kernel_rfl) (e := Extern.BytealgIndexByte.indexByte) (by kernel_rfl), Lib.run_indexByteString]
  simp only [Result.andThen]
  rw [Oper.upon_value]
  go_wp2
  go_ret
  refine ⟨ret_int ?_, rfl⟩
  have := index_hv ⟨c.toNat, c.toNat_lt⟩
  simpa using this

set_option maxHeartbeats 800000 in
theorem l1Parse_any (s : ByteArray) (w : World) (hs : s.size = 8) :
    Calls Tryz.prog 79 #[.string s] w fun e w' => e = .returned (.tuple #[.int .i64 ((pv s.data.toList).getD 0), .bool (pv s.data.toList).isSome]) ∧ w' = w := by
  have hne : ((s.size : Int) != 8) = false := by simp [hs]
  have hs8 : 8 ≤ s.size := by omega
  have HS := hide hs
  clear hs
  go_enter Tryz.func79, Tryz.ntmps79
  go_wp2
  go_loop [4, 5, 6, 17, 30] (fun n i _ _ _ => ∃ k : Nat, ∃ x : Int, k ≤ 8 ∧ i = .int .i64 k ∧ n = .int .i64 x ∧ pv (s.data.toList.take k) = some x ∧ 0 ≤ x ∧ x < 16 ^ k) (fun _ i _ _ _ => 8 - (intOf i).toNat)
  case atStart => exact ⟨0, 0, Nat.zero_le _, rfl, rfl, rfl, by decide, by decide⟩
  case round =>
    obtain ⟨k, x, hk, rfl, rfl, hpv, hx0, hx1⟩ := hrel
    have HP := hide hpv
    clear hpv
    by_cases hlt : k < 8
    · have hx2 : x ≤ 268435455 := pow_7 hlt hx1
      have HX1 := hide hx1
      clear hx1
      have hks : k < s.size := by omega
      by_cases c1 : 48 ≤ (s[k].toNat : Int) ∧ (s[k].toNat : Int) ≤ 57
      · obtain ⟨c1, c2⟩ := c1
        go_wp2
        go_round
        case rel => exact ⟨k + 1, _, by omega, by go_num, rfl, pv_go hks HP.out (hv_yes1 c1 c2), by omega, pow_go HX1.out (by omega)⟩
        case measure => simp [intOf]; omega
      · by_cases c2 : 97 ≤ (s[k].toNat : Int) ∧ (s[k].toNat : Int) ≤ 102
        · obtain ⟨c2, c3⟩ := c2
          have c4 : 48 ≤ (s[k].toNat : Int) := by omega
          have c5 : ¬ (s[k].toNat : Int) ≤ 57 := by omega
          clear c1
          go_wp2
          go_round
          case rel => exact ⟨k + 1, _, by omega, by go_num, by go_num, pv_go hks HP.out (hv_yes2 c2 c3), by omega, pow_go HX1.out (by omega)⟩
          case measure => simp [intOf]; omega
        · have hdie := pv_die hks HP.out (hv_no c1 c2)
          have HD := hide hdie
          clear hdie
          rcases (show (s[k].toNat : Int) < 48 ∨ (57 < (s[k].toNat : Int) ∧ (s[k].toNat : Int) < 97) ∨ 102 < (s[k].toNat : Int) from by omega) with c3 | c3 | c3
          all_goals
            clear c1 c2
            go_wp2
            go_ret2
            exact ⟨ret_pair (by rw [HD.out]; rfl) (by rw [HD.out]; rfl), rfl⟩
    · have hend := pv_end (by have := HS.out; omega) HP.out
      have HE := hide hend
      clear hend
      go_wp2
      go_ret2
      exact ⟨ret_pair (by rw [HE.out]; rfl) (by rw [HE.out]; rfl), rfl⟩

/-- What both hand back. -/
def pvCode (s : ByteArray) : Int := if s.size = 8 ∧ (pv s.data.toList).isSome then 0 else 5
def pvValue (s : ByteArray) : Int := if s.size = 8 then (pv s.data.toList).getD 0 else 0

theorem l1Parse_len (s : ByteArray) (w : World) (hs : s.size ≠ 8) :
    Calls Tryz.prog 79 #[.string s] w fun e w' => e = .returned (.tuple #[.int .i64 0, .bool false]) ∧ w' = w := by
  have hne : ((s.size : Int) != 8) = true := by simp; omega
  go_enter Tryz.func79, Tryz.ntmps79
  go_wp2
  go_ret2
  exact ⟨rfl, rfl⟩



set_option maxHeartbeats 800000 in
theorem implParseHex_any (s : ByteArray) (w : World) :
    Calls Tryz.prog 103 #[.string s] w fun e w' => e = .returned (.agg #[.int .i64 (pvCode s), .int .i64 (pvValue s)]) ∧ Below w.heap.size w w' := by
  by_cases hs : s.size = 8
  · have hne : ((s.size : Int) != 8) = false := by simp [hs]
    have hs8 : 8 ≤ s.size := by omega
    have hs9 : s.size ≤ 8 := by omega
    have HS := hide hs
    clear hs
    go_enter Tryz.func103, Tryz.ntmps103
    go_wp2
    go_loop [3, 4, 5, 12] (fun n _ _ i => ∃ k : Nat, ∃ x : Int, k ≤ 8 ∧ i = .int .i64 k ∧ n = .int .u32 x ∧ pv (s.data.toList.take k) = some x ∧ 0 ≤ x ∧ x < 16 ^ k) (fun _ _ _ i => 8 - (intOf i).toNat)
    case atStart => exact ⟨0, 0, Nat.zero_le _, rfl, rfl, rfl, by decide, by decide⟩
    case round =>
      obtain ⟨k, x, hk, rfl, rfl, hpv, hx0, hx1⟩ := hrel
      have HP := hide hpv
      clear hpv
      by_cases hlt : k < 8
      · have hx2 : x ≤ 268435455 := pow_7 hlt hx1
        have HX1 := hide hx1
        clear hx1
        have hks : k < s.size := by omega
        rcases hv_cases (s[k].toNat : Int) (by omega) with ⟨d, hd, d0, d1⟩ | hd
        · have hj := or_join x d hx0 hx2 d0 d1
          have HD := hide hd
          clear hd
          go_wp2_with (go_at_call 122; refine (indexByte_any _ _).mono ?_; rintro e w' ⟨rfl, rfl⟩; rw [HD.out]; simp only [Option.getD_some])
          go_round
          case rel => exact ⟨k + 1, _, by omega, by go_num, rfl, pv_go hks HP.out HD.out, by omega, pow_go HX1.out (by omega)⟩
          case measure => simp [intOf]; omega
        · have hdie := pv_die hks HP.out hd
          have e1 : pvCode s = 5 := by simp [pvCode, hdie]
          have e2 : pvValue s = 0 := by simp [pvValue, hdie]
          have HD := hide hd
          have HE := hide (And.intro e1 e2)
          clear hd hdie e1 e2
          go_wp2_with (go_at_call 122; refine (indexByte_any _ _).mono ?_; rintro e w' ⟨rfl, rfl⟩; rw [HD.out]; simp only [Option.getD_none])
          obtain ⟨e1, e2⟩ := HE.out
          rw [e1, e2]
          exact bodyPost_ret (v := .agg #[.int .i64 5, .int .i64 0]) (by simp [results, Tryz.results103, go_sem]) rfl ⟨rfl, (Below.refl _ _).alloc (Nat.le_refl _) _⟩
      · have hend := pv_end (by omega) HP.out
        have e1 : pvCode s = 0 := by simp [pvCode, hend, HS.out]
        have e2 : pvValue s = x := by simp [pvValue, hend, HS.out]
        have hx2 : x < 4294967296 := by
          have hk8 : k = 8 := by omega
          subst hk8
          exact hx1
        have HE := hide (And.intro e1 e2)
        clear hend e1 e2 hx1
        go_wp2
        obtain ⟨e1, e2⟩ := HE.out
        rw [e1, e2]
        exact bodyPost_ret (v := .agg #[.int .i64 0, .int .i64 x]) (by simp [results, Tryz.results103, go_sem]) rfl ⟨rfl, (Below.refl _ _).alloc (Nat.le_refl _) _⟩
  · have hne : ((s.size : Int) != 8) = true := by simp; omega
    have e1 : pvCode s = 5 := by simp [pvCode, hs]
    have e2 : pvValue s = 0 := by simp [pvValue, hs]
    rw [e1, e2]
    clear e1 e2
    go_enter Tryz.func103, Tryz.ntmps103
    go_wp2
    exact bodyPost_ret (v := .agg #[.int .i64 5, .int .i64 0]) (by simp [results, Tryz.results103, go_sem]) rfl ⟨rfl, (Below.refl _ _).alloc (Nat.le_refl _) _⟩

end Go.Proofs.YtlbccbikepkfiaaGreatDoor

namespace Go.Proofs.YtlbccbikepkfiaaGreatDoor
open Go.RowKit
set_option linter.unusedVariables false
set_option maxRecDepth 100000

theorem hexText_size (n : Int) : (hexText n).size = 8 := by unfold hexText; rw [strOfNums_size]; simp [hexList]
theorem hv_digit : ∀ d : Fin 16, hv ((UInt8.ofNat (hexL.getD d.val 0).toNat).toNat : Int) = some (d.val : Int) := by decide
theorem hv_dg (d : Int) (h0 : 0 ≤ d) (h1 : d < 16) : hv ((UInt8.ofNat (hexL.getD d.toNat 0).toNat).toNat : Int) = some d := by
  have := hv_digit ⟨d.toNat, by omega⟩
  simp only at this
  rw [this]
  congr 1
  omega
theorem pv_hex (n : Int) (h0 : 0 ≤ n) (h1 : n ≤ 4294967295) : pv (hexText n).data.toList = some n := by
  have e : (hexText n).data.toList = (hexList n).map fun z => UInt8.ofNat z.toNat := rfl
  have e2 : hexList n = [hexL.getD (dg n 0).toNat 0, hexL.getD (dg n 1).toNat 0, hexL.getD (dg n 2).toNat 0, hexL.getD (dg n 3).toNat 0, hexL.getD (dg n 4).toNat 0, hexL.getD (dg n 5).toNat 0, hexL.getD (dg n 6).toNat 0, hexL.getD (dg n 7).toNat 0] := rfl
  rw [e, e2]
  simp only [List.map_cons, List.map_nil, pv, List.foldl_cons, List.foldl_nil]
  have k0 := dg0 n h0 h1
  have k1 := dg1 n h0 h1
  have k2 := dg2 n h0 h1
  have k3 := dg3 n h0 h1
  have k4 := dg4 n h0 h1
  have k5 := dg5 n h0 h1
  have k6 := dg6 n h0 h1
  have k7 := dg7 n h0 h1
  simp only [pvStep, Option.bind_some, hv_dg (dg n 0) (by omega) (by omega), hv_dg (dg n 1) (by omega) (by omega), hv_dg (dg n 2) (by omega) (by omega), hv_dg (dg n 3) (by omega) (by omega), hv_dg (dg n 4) (by omega) (by omega), hv_dg (dg n 5) (by omega) (by omega), hv_dg (dg n 6) (by omega) (by omega), hv_dg (dg n 7) (by omega) (by omega), Option.map_some]
  congr 1
  omega
theorem pvValue_hex (n : Int) (h0 : 0 ≤ n) (h1 : n ≤ 4294967295) : pvValue (hexText n) = n := by
  unfold pvValue
  rw [if_pos (hexText_size n), pv_hex n h0 h1]
  rfl
end Go.Proofs.YtlbccbikepkfiaaGreatDoor

namespace Go.Proofs.YtlbccbikepkfiaaGreatDoor
set_option linter.unusedVariables false

/-- Cut at each mark. -/
def cutC (m : UInt8) : Bs → List Bs
  | [] => [[]]
  | c :: l => if c = m then [] :: cutC m l else
    match cutC m l with
    | [] => [[c]]
    | p :: ps => (c :: p) :: ps

theorem cutC_ne (m : UInt8) (l : Bs) : cutC m l ≠ [] := by
  cases l with
  | nil => simp [cutC]
  | cons c l =>
    simp only [cutC]
    split
    · simp
    · split <;> simp
theorem cutC_mark {m : UInt8} (l : Bs) : cutC m (m :: l) = [] :: cutC m l := by simp [cutC]
theorem cutC_other {m : UInt8} {c : UInt8} (h : c ≠ m) {l : Bs} {p : Bs} {ps : List Bs} (e : cutC m l = p :: ps) : cutC m (c :: l) = (c :: p) :: ps := by
  simp [cutC, h, e]
theorem cutC_head {m : UInt8} (l : Bs) : ∃ p ps, cutC m l = p :: ps := by
  cases e : cutC m l with
  | nil => exact absurd e (cutC_ne m l)
  | cons p ps => exact ⟨p, ps, rfl⟩

theorem cutC_miss {m : UInt8} {l : Bs} (h : m ∉ l) : cutC m l = [l] := by
  induction l with
  | nil => rfl
  | cons c l ih =>
    have h1 : c ≠ m := fun e => h (by simp [e])
    have h2 : m ∉ l := fun e => h (by simp [e])
    exact cutC_other h1 (ih h2)
theorem cutC_hit {m : UInt8} {a : Bs} (b : Bs) (h : m ∉ a) : cutC m (a ++ m :: b) = a :: cutC m b := by
  induction a with
  | nil => exact cutC_mark b
  | cons c a ih =>
    have h1 : c ≠ m := fun e => h (by simp [e])
    have h2 : m ∉ a := fun e => h (by simp [e])
    exact cutC_other h1 (ih h2)

/-- One byte more, at the end. -/
theorem cutC_snoc {m : UInt8} : ∀ (l : Bs) (c : UInt8) (o : List Bs) (x : Bs), cutC m l = o ++ [x] → cutC m (l ++ [c]) = if c = m then o ++ [x] ++ [[]] else o ++ [x ++ [c]]
  | [], c, o, x, h => by
    have e : o = [] ∧ x = [] := by
      cases o with
      | nil => simpa [cutC, eq_comm] using h
      | cons a o => simp [cutC] at h
    obtain ⟨rfl, rfl⟩ := e
    by_cases hc : c = m
    · subst hc; simp [cutC]
    · simp [cutC, hc]
  | d :: l, c, o, x, h => by
    by_cases hd : d = m
    · subst hd
      rw [cutC_mark] at h
      cases o with
      | nil =>
        simp at h
        exact absurd h.2 (cutC_ne _ l)
      | cons a o =>
        simp at h
        obtain ⟨rfl, h⟩ := h
        have ih := cutC_snoc l c o x h
        simp only [List.cons_append, cutC_mark, ih]
        split <;> simp
    · obtain ⟨p, ps, e⟩ := cutC_head l
      rw [cutC_other hd e] at h
      cases o with
      | nil =>
        simp at h
        obtain ⟨rfl, rfl⟩ := h
        have ih := cutC_snoc l c [] p e
        by_cases hc : c = m
        · simp only [hc, if_pos, List.nil_append, List.cons_append] at ih ⊢
          exact cutC_other hd ih
        · simp only [hc, if_false, List.nil_append, List.cons_append] at ih ⊢
          exact cutC_other hd ih
      | cons a o =>
        simp at h
        obtain ⟨rfl, h⟩ := h
        have ih := cutC_snoc (m := m) l c (p :: o) x (by simp [e, h])
        by_cases hc : c = m
        · simp only [hc, if_pos, List.cons_append] at ih ⊢
          exact cutC_other hd ih
        · simp only [hc, if_false, List.cons_append] at ih ⊢
          exact cutC_other hd ih

theorem cutC_no {m : UInt8} : ∀ (l : Bs), ∀ n ∈ cutC m l, m ∉ n
  | [], n, h => by simp [cutC] at h; simp [h]
  | c :: l, n, h => by
    by_cases hc : c = m
    · subst hc
      rw [cutC_mark] at h
      rcases List.mem_cons.1 h with rfl | h
      · simp
      · exact cutC_no l n h
    · obtain ⟨p, ps, e⟩ := cutC_head l
      rw [cutC_other hc e] at h
      rcases List.mem_cons.1 h with rfl | h
      · have := cutC_no (m := m) l p (by simp [e])
        simp [this, Ne.symm hc]
      · exact cutC_no (m := m) l n (by simp [e, h])

theorem cutC_length {m : UInt8} (l : Bs) : (cutC m l).length ≤ l.length + 1 := by
  induction l with
  | nil => simp [cutC]
  | cons c l ih =>
    by_cases hc : c = m
    · subst hc; rw [cutC_mark]; simp; omega
    · obtain ⟨p, ps, e⟩ := cutC_head l
      rw [cutC_other hc e]
      rw [e] at ih
      simp at ih ⊢; omega
theorem cutC_each {m : UInt8} : ∀ (l : Bs), ∀ n ∈ cutC m l, n.length ≤ l.length
  | [], n, h => by simp [cutC] at h; simp [h]
  | c :: l, n, h => by
    by_cases hc : c = m
    · subst hc
      rw [cutC_mark] at h
      rcases List.mem_cons.1 h with rfl | h
      · simp
      · have := cutC_each l n h; simp; omega
    · obtain ⟨p, ps, e⟩ := cutC_head l
      rw [cutC_other hc e] at h
      rcases List.mem_cons.1 h with rfl | h
      · have := cutC_each (m := m) l p (by simp [e]); simp; omega
      · have := cutC_each (m := m) l n (by simp [e, h]); simp; omega

/-- Joined with a mark between. -/
def joinC (m : UInt8) : List Bs → Bs
  | [] => []
  | [p] => p
  | p :: q :: r => p ++ m :: joinC m (q :: r)
theorem joinC_two (m : UInt8) (p : Bs) {r : List Bs} (h : r ≠ []) : joinC m (p :: r) = p ++ m :: joinC m r := by
  cases r with
  | nil => exact absurd rfl h
  | cons q r => rfl
theorem joinC_cut (m : UInt8) : ∀ (l : Bs), joinC m (cutC m l) = l
  | [] => rfl
  | c :: l => by
    have ih := joinC_cut m l
    by_cases hc : c = m
    · rw [hc, cutC_mark, joinC_two m _ (cutC_ne m l), ih]; rfl
    · obtain ⟨p, ps, e⟩ := cutC_head (m := m) l
      rw [cutC_other hc e]
      rw [e] at ih
      cases ps with
      | nil => simp only [joinC] at ih ⊢; rw [ih]
      | cons q r => simp only [joinC] at ih ⊢; rw [List.cons_append, ih]
theorem cut_joinC {m : UInt8} : ∀ {ps : List Bs}, ps ≠ [] → (∀ p ∈ ps, m ∉ p) → cutC m (joinC m ps) = ps
  | [], h, _ => absurd rfl h
  | [p], _, h => cutC_miss (h p (by simp))
  | p :: q :: r, _, h => by
    show cutC m (p ++ m :: joinC m (q :: r)) = _
    rw [cutC_hit _ (h p (by simp)), cut_joinC (by simp) (fun x hx => h x (by simp at hx ⊢; exact .inr hx))]
theorem joinC_no {m c : UInt8} (hc : c ≠ m) : ∀ {ps : List Bs}, (∀ p ∈ ps, c ∉ p) → c ∉ joinC m ps
  | [], _ => by simp [joinC]
  | [p], h => h p (by simp)
  | p :: q :: r, h => by
    show c ∉ p ++ m :: joinC m (q :: r)
    have ih := joinC_no hc (ps := q :: r) (fun x hx => h x (by simp at hx ⊢; exact .inr hx))
    simp [h p (by simp), hc, ih]
def hexB (n : Int) : Bs := (hexText n).data.toList
theorem str_hexB (n : Int) : str (hexB n) = hexText n := str_of _
theorem hexB_length (n : Int) : (hexB n).length = 8 := by
  have := hexText_size n
  rw [Lib.size_eq] at this
  exact this
theorem hexB_chars (n : Int) : ∀ c ∈ hexB n, c ≠ 10 ∧ c ≠ 32 ∧ c ≠ 44 ∧ c ≠ 45 := by
  intro c hc
  have e : hexB n = (hexList n).map fun z => UInt8.ofNat z.toNat := rfl
  rw [e] at hc
  obtain ⟨z, hz, rfl⟩ := List.mem_map.1 hc
  obtain ⟨i, hi, rfl⟩ := List.mem_map.1 hz
  have hd : ∀ d : Fin 16, UInt8.ofNat (hexL.getD d.val 0).toNat ≠ 10 ∧ UInt8.ofNat (hexL.getD d.val 0).toNat ≠ 32 ∧ UInt8.ofNat (hexL.getD d.val 0).toNat ≠ 44 ∧ UInt8.ofNat (hexL.getD d.val 0).toNat ≠ 45 := by decide
  have hr := dg_range n i
  exact hd ⟨(dg n i).toNat, by unfold dg; omega⟩
theorem hexB_ne (n : Int) : hexB n ≠ [45] := by
  intro h
  have := hexB_length n
  rw [h] at this
  cases this

/-- A number from 0 to 99, in decimal. -/
def digB (n : Int) : Bs := if n < 10 then [UInt8.ofNat (48 + n).toNat] else [UInt8.ofNat (48 + n / 10).toNat, UInt8.ofNat (48 + n % 10).toNat]
theorem digB_chars (n : Int) (h0 : 0 ≤ n) (h1 : n ≤ 24) : ∀ c ∈ digB n, c ≠ 10 ∧ c ≠ 32 := by
  have : ∀ k : Fin 25, ∀ c ∈ digB (k.val : Int), c ≠ 10 ∧ c ≠ 32 := by decide
  have := this ⟨n.toNat, by omega⟩
  simpa [show ((n.toNat : Nat) : Int) = n from by omega] using this

def hexesB (cs : List Int) : Bs := if cs = [] then [45] else joinC 44 (cs.map hexB)
def kindB (k : Int) : Bs := if k = 1 then [102] else if k = 2 then [100] else if k = 3 then [119] else [111]
/-- What EntryText tells. -/
def textE (e : En) : Bs := if e.kind = 1 then joinC 32 [[102], e.path, digB e.size, hexesB e.chunks] else joinC 32 [kindB e.kind, e.path]
/-- What PackLayer tells. -/
def packL (es : List En) : Bs := (es.map fun e => textE e ++ [10]).flatten

/-- What a right entry is. -/
structure FitE (e : En) : Prop where
  path : faultP e.path = 0
  kind : 1 ≤ e.kind ∧ e.kind ≤ 4
  form : e.kind = 1 ∨ (e.size = 0 ∧ e.chunks = [])
  size : 0 ≤ e.size ∧ e.size ≤ 24
  many : (e.chunks.length : Int) = (e.size + 7) / 8
  digs : ∀ c ∈ e.chunks, 0 ≤ c ∧ c ≤ 4294967295
theorem entFault_fit {e : En} : entFault e = 0 ↔ FitE e := by
  constructor
  · intro h
    by_cases hp : faultP e.path = 0
    · by_cases h1 : formE e = true
      · by_cases h2 : sizeE e = true
        · by_cases h3 : manyE e = true
          · rw [entFault_digs hp h1 h2 h3] at h
            by_cases h4 : e.chunks.all isDig = true
            · simp only [formE, decide_eq_true_eq] at h1
              simp only [sizeE, decide_eq_true_eq] at h2
              simp only [manyE, decide_eq_true_eq] at h3
              refine ⟨hp, h1.1, ?_, h2, h3, ?_⟩
              · rcases h1.2 with h | h
                · exact .inl h
                · exact .inr ⟨h.1, List.length_eq_zero_iff.1 h.2⟩
              · intro c hc
                have := List.all_eq_true.1 h4 c hc
                simpa [isDig] using this
            · rw [if_neg h4] at h; cases h
          · rw [entFault_many hp h1 h2 (by simpa using h3)] at h; cases h
        · rw [entFault_size hp h1 (by simpa using h2)] at h; cases h
      · rw [entFault_form hp (by simpa using h1)] at h; cases h
    · rw [entFault_path hp] at h; exact absurd h hp
  · intro ⟨hp, hk, hf, hs, hm, hd⟩
    rw [entFault_digs hp (by simp only [formE, decide_eq_true_eq]; exact ⟨hk, hf.imp id fun h => ⟨h.1, by simp [h.2]⟩⟩) (by simp only [sizeE, decide_eq_true_eq]; exact hs) (by simp only [manyE, decide_eq_true_eq]; exact hm), if_pos]
    apply List.all_eq_true.2
    intro c hc
    simpa [isDig] using hd c hc

theorem plain_chars {n : Bs} (h : plain n = true) : ∀ c ∈ n, c ≠ 10 ∧ c ≠ 32 ∧ c ≠ 44 := by
  intro c hc
  simp only [plain, Bool.and_eq_true] at h
  have := List.all_eq_true.1 h.1 c hc
  simp only [small, decide_eq_true_eq] at this
  refine ⟨?_, ?_, ?_⟩ <;> (rintro rfl; simp at this)
theorem joinB_chars : ∀ {ns : List Bs}, (∀ n ∈ ns, plain n = true) → ∀ c ∈ joinB ns, c ≠ 10 ∧ c ≠ 32 ∧ c ≠ 44
  | [], _, c, hc => by simp [joinB] at hc
  | n :: ns, h, c, hc => by
    simp only [joinB, List.mem_cons, List.mem_append] at hc
    rcases hc with rfl | hc | hc
    · decide
    · exact plain_chars (h n (by simp)) c hc
    · exact joinB_chars (fun x hx => h x (by simp [hx])) c hc
theorem path_chars {p : Bs} (h : faultP p = 0) : ∀ c ∈ p, c ≠ 10 ∧ c ≠ 32 ∧ c ≠ 44 := by
  obtain ⟨ns, hn, rfl, -⟩ := faultP_zero h
  exact joinB_chars hn.2.1
theorem hexesB_chars (cs : List Int) : ∀ c ∈ hexesB cs, c ≠ 10 ∧ c ≠ 32 := by
  unfold hexesB
  split
  · decide
  · intro c hc
    have h10 : (10 : UInt8) ∉ joinC 44 (cs.map hexB) := joinC_no (by decide) (fun p hp => by obtain ⟨z, -, rfl⟩ := List.mem_map.1 hp; exact fun h => (hexB_chars z _ h).1 rfl)
    have h32 : (32 : UInt8) ∉ joinC 44 (cs.map hexB) := joinC_no (by decide) (fun p hp => by obtain ⟨z, -, rfl⟩ := List.mem_map.1 hp; exact fun h => (hexB_chars z _ h).2.1 rfl)
    exact ⟨fun e => h10 (e ▸ hc), fun e => h32 (e ▸ hc)⟩
theorem kindB_chars (k : Int) : ∀ c ∈ kindB k, c ≠ 10 ∧ c ≠ 32 := by
  unfold kindB
  repeat' split
  all_goals decide
/-- The words of a right entry's text. -/
def wordsE (e : En) : List Bs := if e.kind = 1 then [[102], e.path, digB e.size, hexesB e.chunks] else [kindB e.kind, e.path]
theorem textE_words (e : En) : textE e = joinC 32 (wordsE e) := by unfold textE wordsE; split <;> rfl
theorem wordsE_chars {e : En} (h : FitE e) : ∀ p ∈ wordsE e, ∀ c ∈ p, c ≠ 10 ∧ c ≠ 32 := by
  intro p hp
  have hpath : ∀ c ∈ e.path, c ≠ 10 ∧ c ≠ 32 := fun c hc => ⟨(path_chars h.path c hc).1, (path_chars h.path c hc).2.1⟩
  unfold wordsE at hp
  split at hp
  · simp only [List.mem_cons, List.not_mem_nil, or_false] at hp
    rcases hp with rfl | rfl | rfl | rfl
    · decide
    · exact hpath
    · exact digB_chars _ h.size.1 h.size.2
    · exact hexesB_chars _
  · simp only [List.mem_cons, List.not_mem_nil, or_false] at hp
    rcases hp with rfl | rfl
    · exact kindB_chars _
    · exact hpath
theorem wordsE_ne (e : En) : wordsE e ≠ [] := by unfold wordsE; split <;> simp
theorem cut_textE {e : En} (h : FitE e) : cutC 32 (textE e) = wordsE e := by
  rw [textE_words]
  exact cut_joinC (wordsE_ne e) (fun p hp hc => (wordsE_chars h p hp _ hc).2 rfl)
theorem textE_line {e : En} (h : FitE e) : (10 : UInt8) ∉ textE e := by
  rw [textE_words]
  exact joinC_no (by decide) (fun p hp hc => (wordsE_chars h p hp _ hc).1 rfl)

/-- A digest's text read. -/
def hexW (w : Bs) : Option Int := if w.length = 8 then pv w else none
theorem hexW_hex {n : Int} (h : 0 ≤ n ∧ n ≤ 4294967295) : hexW (hexB n) = some n := by
  unfold hexW
  rw [if_pos (hexB_length n)]
  exact pv_hex n h.1 h.2
theorem hexW_all : ∀ {cs : List Int}, (∀ c ∈ cs, 0 ≤ c ∧ c ≤ 4294967295) → (cs.map hexB).mapM hexW = some cs
  | [], _ => rfl
  | c :: cs, h => by
    rw [List.map_cons, List.mapM_cons, hexW_hex (h c (by simp)), hexW_all (fun x hx => h x (by simp [hx]))]
    rfl
theorem hexesB_one {cs : List Int} (h : cs ≠ []) : hexesB cs ≠ [45] := by
  unfold hexesB
  rw [if_neg h]
  intro e
  have hm : (45 : UInt8) ∈ joinC 44 (cs.map hexB) := by rw [e]; simp
  exact joinC_no (by decide) (fun p hp => by obtain ⟨z, -, rfl⟩ := List.mem_map.1 hp; exact fun h => (hexB_chars z _ h).2.2.2 rfl) hm
theorem cut_hexes {cs : List Int} (h : cs ≠ []) : cutC 44 (hexesB cs) = cs.map hexB := by
  unfold hexesB
  rw [if_neg h]
  exact cut_joinC (by simpa using h) (fun p hp => by obtain ⟨z, -, rfl⟩ := List.mem_map.1 hp; exact fun h => (hexB_chars z _ h).2.2.1 rfl)
end Go.Proofs.YtlbccbikepkfiaaGreatDoor

namespace Go.Proofs.YtlbccbikepkfiaaGreatDoor
set_option linter.unusedVariables false

def imageW : Bs := [105, 109, 97, 103, 101]
/-- What the fault of a manifest is. -/
def manFault (n : Bs) (ds : List Int) : Int := if plain n then (if 4 < n.length ∨ ds.length < 1 ∨ 3 < ds.length then 2 else if ds.all isDig then 0 else 3) else 5
theorem manFault_name {n : Bs} {ds : List Int} (h : plain n = false) : manFault n ds = 5 := by simp [manFault, h]
theorem manFault_many {n : Bs} {ds : List Int} (h : plain n = true) (h1 : 4 < n.length ∨ ds.length < 1 ∨ 3 < ds.length) : manFault n ds = 2 := by rw [manFault, if_pos h, if_pos h1]
theorem manFault_digs {n : Bs} {ds : List Int} (h : plain n = true) (h1 : ¬ (4 < n.length ∨ ds.length < 1 ∨ 3 < ds.length)) : manFault n ds = if ds.all isDig then 0 else 3 := by rw [manFault, if_pos h, if_neg h1]
structure FitM (n : Bs) (ds : List Int) : Prop where
  name : plain n = true
  len : n.length ≤ 4
  some : ds ≠ []
  many : ds.length ≤ 3
  digs : ∀ c ∈ ds, 0 ≤ c ∧ c ≤ 4294967295
theorem manFault_fit {n : Bs} {ds : List Int} : manFault n ds = 0 ↔ FitM n ds := by
  constructor
  · intro h
    by_cases hp : plain n = true
    · by_cases h1 : 4 < n.length ∨ ds.length < 1 ∨ 3 < ds.length
      · rw [manFault_many hp h1] at h; cases h
      · rw [manFault_digs hp h1] at h
        by_cases h4 : ds.all isDig = true
        · refine ⟨hp, by omega, fun e => h1 (by simp [e]), by omega, fun c hc => ?_⟩
          have := List.all_eq_true.1 h4 c hc
          simpa [isDig] using this
        · rw [if_neg h4] at h; cases h
    · rw [manFault_name (by simpa using hp)] at h; cases h
  · intro ⟨hp, hl, hs, hm, hd⟩
    have hz : ds.length ≠ 0 := fun e => hs (List.length_eq_zero_iff.1 e)
    rw [manFault_digs hp (by omega), if_pos]
    apply List.all_eq_true.2
    intro c hc
    simpa [isDig] using hd c hc
/-- The words of a manifest's text. -/
def wordsM (n : Bs) (ds : List Int) : List Bs := imageW :: n :: ds.map hexB
/-- What PackManifest tells. -/
def imageB (n : Bs) (ds : List Int) : Bs := joinC 32 (wordsM n ds) ++ [10]
theorem wordsM_chars {n : Bs} {ds : List Int} (h : plain n = true) : ∀ p ∈ wordsM n ds, (32 : UInt8) ∉ p := by
  intro p hp
  simp only [wordsM, List.mem_cons, List.mem_map] at hp
  rcases hp with rfl | rfl | ⟨z, -, rfl⟩
  · decide
  · exact fun hc => (plain_chars h _ hc).2.1 rfl
  · exact fun hc => (hexB_chars z _ hc).2.1 rfl
theorem cut_image {n : Bs} {ds : List Int} (h : plain n = true) : cutC 32 (joinC 32 (wordsM n ds)) = wordsM n ds := cut_joinC (by simp [wordsM]) (wordsM_chars h)
def packCode (n : Bs) (ds : List Int) : Int := manFault n ds
def packText (n : Bs) (ds : List Int) : Bs := if manFault n ds = 0 then imageB n ds else []

/-- What the model reads: the words but for the line feed. -/
def readM (l : Bs) : Option (Bs × List Int) :=
  match cutC 32 l with
  | a :: n :: r => if a = imageW then (match r.mapM hexW with | some ds => if manFault n ds = 0 then some (n, ds) else none | none => none) else none
  | _ => none
/-- What ParseManifest answers. -/
def parseM (t : Bs) : Option (Bs × List Int) := if t.getLast? = some 10 then readM t.dropLast else none
theorem imageB_last (n : Bs) (ds : List Int) : (imageB n ds).getLast? = some 10 ∧ (imageB n ds).dropLast = joinC 32 (wordsM n ds) := by simp [imageB]
theorem parseM_of {n : Bs} {ds : List Int} (h : FitM n ds) : parseM (imageB n ds) = some (n, ds) := by
  unfold parseM
  rw [if_pos (imageB_last n ds).1, (imageB_last n ds).2]
  unfold readM
  rw [cut_image h.name]
  simp only [wordsM, if_true, hexW_all h.digs, if_pos (manFault_fit.2 h)]
theorem hv_back : ∀ n : Fin 256, ∀ v : Fin 16, hv (n.val : Int) = some (v.val : Int) → UInt8.ofNat (hexL.getD v.val 0).toNat = UInt8.ofNat n.val := by decide +kernel
theorem hv_char {c : UInt8} {v : Int} (h : hv (c.toNat : Int) = some v) : 0 ≤ v ∧ v < 16 ∧ UInt8.ofNat (hexL.getD v.toNat 0).toNat = c := by
  have hr : 0 ≤ v ∧ v < 16 := by
    rcases hv_cases (c.toNat : Int) (by omega) with ⟨d, hd, h0, h1⟩ | hn
    · rw [hd] at h; cases h; omega
    · rw [hn] at h; cases h
  refine ⟨hr.1, hr.2, ?_⟩
  have := hv_back ⟨c.toNat, c.toNat_lt⟩ ⟨v.toNat, by omega⟩ (by simp only; rw [h]; congr 1; omega)
  simpa using this
theorem pv_cons_none {l : Bs} (a : Option Int) (h : a = none) : l.foldl pvStep a = none := by rw [h]; exact pv_none l
theorem pvStep_some {a : Option Int} {c : UInt8} {x : Int} (h : pvStep a c = some x) : ∃ y v, a = some y ∧ hv (c.toNat : Int) = some v ∧ x = y * 16 + v := by
  cases a with
  | none => simp [pvStep] at h
  | some y =>
    simp only [pvStep, Option.bind_some] at h
    cases hv' : hv (c.toNat : Int) with
    | none => rw [hv'] at h; cases h
    | some v => rw [hv'] at h; simp at h; exact ⟨y, v, rfl, rfl, h.symm⟩
theorem hexW_pv {w : Bs} {d : Int} (h : hexW w = some d) : hexB d = w ∧ 0 ≤ d ∧ d ≤ 4294967295 := by
  unfold hexW at h
  by_cases hl : w.length = 8
  · rw [if_pos hl] at h
    match w, hl with
    | [c0, c1, c2, c3, c4, c5, c6, c7], _ =>
      simp only [pv, List.foldl_cons, List.foldl_nil] at h
      obtain ⟨y7, v7, h7, k7, e7⟩ := pvStep_some h
      obtain ⟨y6, v6, h6, k6, e6⟩ := pvStep_some h7
      obtain ⟨y5, v5, h5, k5, e5⟩ := pvStep_some h6
      obtain ⟨y4, v4, h4, k4, e4⟩ := pvStep_some h5
      obtain ⟨y3, v3, h3, k3, e3⟩ := pvStep_some h4
      obtain ⟨y2, v2, h2, k2, e2⟩ := pvStep_some h3
      obtain ⟨y1, v1, h1, k1, e1⟩ := pvStep_some h2
      obtain ⟨y0, v0, h0, k0, e0⟩ := pvStep_some h1
      cases h0
      obtain ⟨a0, b0, q0⟩ := hv_char k0
      obtain ⟨a1, b1, q1⟩ := hv_char k1
      obtain ⟨a2, b2, q2⟩ := hv_char k2
      obtain ⟨a3, b3, q3⟩ := hv_char k3
      obtain ⟨a4, b4, q4⟩ := hv_char k4
      obtain ⟨a5, b5, q5⟩ := hv_char k5
      obtain ⟨a6, b6, q6⟩ := hv_char k6
      obtain ⟨a7, b7, q7⟩ := hv_char k7
      have d0 : 0 ≤ d := by omega
      have d1 : d ≤ 4294967295 := by omega
      refine ⟨?_, d0, d1⟩
      have e : hexB d = (hexList d).map fun z => UInt8.ofNat z.toNat := rfl
      have e' : hexList d = [hexL.getD (dg d 0).toNat 0, hexL.getD (dg d 1).toNat 0, hexL.getD (dg d 2).toNat 0, hexL.getD (dg d 3).toNat 0, hexL.getD (dg d 4).toNat 0, hexL.getD (dg d 5).toNat 0, hexL.getD (dg d 6).toNat 0, hexL.getD (dg d 7).toNat 0] := rfl
      have g0 : dg d 0 = v0 := by rw [dg0 d d0 d1]; omega
      have g1 : dg d 1 = v1 := by rw [dg1 d d0 d1]; omega
      have g2 : dg d 2 = v2 := by rw [dg2 d d0 d1]; omega
      have g3 : dg d 3 = v3 := by rw [dg3 d d0 d1]; omega
      have g4 : dg d 4 = v4 := by rw [dg4 d d0 d1]; omega
      have g5 : dg d 5 = v5 := by rw [dg5 d d0 d1]; omega
      have g6 : dg d 6 = v6 := by rw [dg6 d d0 d1]; omega
      have g7 : dg d 7 = v7 := by rw [dg7 d d0 d1]; omega
      rw [e, e', g0, g1, g2, g3, g4, g5, g6, g7]
      simp only [List.map_cons, List.map_nil, q0, q1, q2, q3, q4, q5, q6, q7]
  · rw [if_neg hl] at h; cases h
theorem hexW_back : ∀ {ws : List Bs} {ds : List Int}, ws.mapM hexW = some ds → ds.map hexB = ws ∧ ∀ c ∈ ds, 0 ≤ c ∧ c ≤ 4294967295
  | [], ds, h => by simp at h; subst h; simp
  | w :: ws, ds, h => by
    rw [List.mapM_cons] at h
    cases hd : hexW w with
    | none => rw [hd] at h; simp at h
    | some d =>
      rw [hd] at h
      cases hr : ws.mapM hexW with
      | none => rw [hr] at h; simp at h
      | some r =>
        rw [hr] at h
        simp at h
        subst h
        obtain ⟨i1, i2⟩ := hexW_back hr
        obtain ⟨j1, j2⟩ := hexW_pv hd
        exact ⟨by rw [List.map_cons, i1, j1], fun c hc => (List.mem_cons.1 hc).elim (fun e => e ▸ j2) (i2 c)⟩
theorem parseM_iff {t : Bs} {n : Bs} {ds : List Int} : parseM t = some (n, ds) ↔ FitM n ds ∧ imageB n ds = t := by
  constructor
  · intro h
    unfold parseM at h
    by_cases hl : t.getLast? = some 10
    · rw [if_pos hl] at h
      have ht : t = t.dropLast ++ [10] := by
        rw [List.getLast?_eq_some_iff] at hl
        obtain ⟨ys, rfl⟩ := hl
        simp
      unfold readM at h
      split at h
      · rename_i a n' r hc
        by_cases ha : a = imageW
        · rw [if_pos ha] at h
          split at h
          · rename_i ds' hm
            by_cases hf : manFault n' ds' = 0
            · rw [if_pos hf] at h
              cases h
              refine ⟨manFault_fit.1 hf, ?_⟩
              rw [ht]
              unfold imageB wordsM
              rw [(hexW_back hm).1, ← ha, ← hc, joinC_cut]
            · rw [if_neg hf] at h; cases h
          · cases h
        · rw [if_neg ha] at h; cases h
      · cases h
    · rw [if_neg hl] at h; cases h
  · rintro ⟨h, rfl⟩
    exact parseM_of h
theorem parseM_none {t : Bs} (h : ∀ n ds, FitM n ds → imageB n ds ≠ t) : parseM t = none := by
  cases e : parseM t with
  | none => rfl
  | some x => obtain ⟨n, ds⟩ := x; exact absurd (parseM_iff.1 e).2 (h n ds (parseM_iff.1 e).1)

/-- The text but for a line feed at its end. -/
def trimL (t : Bs) : Bs := if t.getLast? = some 10 then t.dropLast else t
/-- What the program's reader reads, ahead of the look whether it is told so. -/
def readP (t : Bs) : Option (Bs × List Int) :=
  match cutC 32 (trimL t) with
  | _ :: n :: d :: r => ((d :: r).mapM hexW).map fun ds => (n, ds)
  | _ => none
theorem readP_of {n : Bs} {ds : List Int} (h : FitM n ds) : readP (imageB n ds) = some (n, ds) := by
  unfold readP trimL
  rw [if_pos (imageB_last n ds).1, (imageB_last n ds).2, cut_image h.name]
  obtain ⟨d, r, hd⟩ : ∃ d r, ds = d :: r := by
    cases ds with
    | nil => exact absurd rfl h.some
    | cons d r => exact ⟨d, r, rfl⟩
  simp only [wordsM, hd, List.map_cons]
  have := hexW_all h.digs
  rw [hd, List.map_cons] at this
  rw [this]
  rfl
theorem parse_read {t : Bs} {n : Bs} {ds : List Int} (h : readP t = some (n, ds)) (hf : manFault n ds = 0) (ht : imageB n ds = t) : parseM t = some (n, ds) := parseM_iff.2 ⟨manFault_fit.1 hf, ht⟩
theorem parse_not {t : Bs} {n : Bs} {ds : List Int} (h : readP t = some (n, ds)) (hf : manFault n ds ≠ 0 ∨ imageB n ds ≠ t) : parseM t = none := by
  apply parseM_none
  rintro n' ds' hF rfl
  rw [readP_of hF] at h
  cases h
  rcases hf with h | h
  · exact h (manFault_fit.2 hF)
  · exact h rfl
theorem parse_unread {t : Bs} (h : readP t = none) : parseM t = none := by
  apply parseM_none
  rintro n' ds' hF rfl
  rw [readP_of hF] at h
  cases h
end Go.Proofs.YtlbccbikepkfiaaGreatDoor

namespace Go.Proofs.YtlbccbikepkfiaaGreatDoor
open Go.RowKit
set_option linter.unusedVariables false

theorem ret_str {a b : ByteArray} (h : a = b) : Ending.returned (.string a) = .returned (.string b) := by rw [h]

def vS (p : Bs) : Value := .string (str p)
/-- The list that v owns is of the texts ps. -/
def OwnS (B : Nat) (w : World) (v : Value) (ps : List Bs) : Prop := w.ownsRow B 9 1 v ps.length (ps.map vS)
/-- The slice at address a reads as the texts ps (an empty one: nothing is known of a). -/
def ReadsS (w : World) (a : Option Addr) (ps : List Bs) : Prop :=
  ps ≠ [] → ∃ b off, a = some ⟨b, off, none⟩ ∧ b < w.heap.size ∧ ∀ i, i < ps.length → w.cell? ⟨b, off + i, none⟩ = some (.string (str (ps.getD i [])))

theorem ReadsS.kept {S : Nat → Prop} {w w' : World} {a : Option Addr} {ps : List Bs} (h : ReadsS w a ps) (hk : Kept S w w') (hn : ps ≠ [] → ∀ x, a = some x → ¬ S x.block) : ReadsS w' a ps := by
  intro hz
  obtain ⟨b, off, rfl, hb, hc⟩ := h hz
  exact ⟨b, off, rfl, Nat.lt_of_lt_of_le hb hk.size, fun i hi => (hk.cell (p := ⟨b, off + i, none⟩) hb (hn hz ⟨b, off, none⟩ rfl)).trans (hc i hi)⟩
theorem ReadsS.below {w w' : World} {a : Option Addr} {ps : List Bs} (h : ReadsS w a ps) (hk : Below w.heap.size w w') : ReadsS w' a ps :=
  h.kept (S := fun _ => False) (Kept.of_below hk) (fun _ _ _ => id)
theorem ReadsS.drewN {w : World} {a : Option Addr} {ps : List Bs} (h : ReadsS w a ps) (n : Nat) : ReadsS (w.drewN n) a ps := h
theorem ReadsS.nil (w : World) (a : Option Addr) : ReadsS w a [] := fun h => absurd rfl h
theorem ReadsS.take {w : World} {a : Option Addr} {ps : List Bs} (h : ReadsS w a ps) (k : Nat) : ReadsS w a (ps.take k) := by
  intro hz
  have hp : ps ≠ [] := by rintro rfl; simp at hz
  obtain ⟨b, off, rfl, hb, hc⟩ := h hp
  refine ⟨b, off, rfl, hb, fun i hi => ?_⟩
  have hi' : i < k ∧ i < ps.length := by simpa [Nat.lt_min] using hi
  rw [hc i hi'.2]
  simp [List.getD_eq_getElem?_getD, hi'.1]

theorem ReadsS.at {w : World} {a : Option Addr} {ps : List Bs} (h : ReadsS w a ps) {k : Nat} (hk : k < ps.length) :
    ∃ b off p, a = some ⟨b, off, none⟩ ∧ b < w.heap.size ∧ ps[k]? = some p ∧ w.cell? ⟨b, off + k, none⟩ = some (.string (str p)) := by
  obtain ⟨b, off, e, hb, hc⟩ := h (by intro e; simp [e] at hk)
  refine ⟨b, off, ps[k], e, hb, by simp [hk], ?_⟩
  rw [hc k hk]
  simp [List.getD_eq_getElem?_getD, hk]

namespace OwnS
variable {B : Nat} {w w' : World} {v : Value} {ps : List Bs}
theorem nil (B : Nat) (w : World) : OwnS B w (.slice none 0 0) [] := World.ownsRow_nil _ _ _ _
theorem shape (h : OwnS B w v ps) : ∃ a c, v = .slice a ps.length c := ownsRow_shape h
theorem below (h : OwnS B w v ps) (hk : Below w.heap.size w w') : OwnS B w' v ps := ownsRow_below h hk
theorem kept {S : Nat → Prop} (h : OwnS B w v ps) (hk : Kept S w w') (hn : ∀ b, v.ownBlock = some b → ¬ S b) : OwnS B w' v ps := ownsRow_kept h hk hn
theorem mono {B' : Nat} (h : OwnS B w v ps) (hb : B' ≤ B) : OwnS B' w v ps := ownsRow_mono h hb
theorem cap {a : Option Addr} {n c : Nat} (h : OwnS B w (.slice a n c) ps) (hn : n = ps.length) : n ≤ c := by
  subst hn; exact ownsRow_cap h
theorem reads {a : Option Addr} {n c : Nat} (h : OwnS B w (.slice a n c) ps) : ReadsS w a ps := by
  intro hz
  have h0 : 0 < ps.length := List.length_pos_iff.2 hz
  rcases h.2 with ⟨h', hh⟩ | ⟨g, cap, cur, h', hb, hh, hnc, hcm, hcs, htake⟩
  · omega
  · have hl : n = ps.length ∧ a = some ⟨g, 0, none⟩ := by simp only [Value.slice.injEq] at h'; exact ⟨h'.2.1, h'.1⟩
    obtain ⟨rfl, rfl⟩ := hl
    refine ⟨g, 0, rfl, (h.lt g rfl).2, fun i hi => ?_⟩
    have := World.ownsRow.cellAt h i (by omega)
    rw [Nat.zero_add, this]
    simp [List.getD_eq_getElem?_getD, hi, vS]
/-- The same list without its last. -/
theorem dropLast {a : Option Addr} {n c : Nat} (h : OwnS B w (.slice a n c) ps) (hz : ps ≠ []) : OwnS B w (.slice a (n - 1) c) ps.dropLast := by
  have h0 : 0 < ps.length := List.length_pos_iff.2 hz
  rcases h.2 with ⟨h', hh⟩ | ⟨g, cap, cur, h', hb, hh, hnc, hcm, hcs, htake⟩
  · omega
  · simp only [Value.slice.injEq] at h'
    obtain ⟨rfl, rfl, rfl⟩ := h'
    refine ⟨by simp, .inr ⟨g, c, cur, by simp, hb, hh, by simp; omega, hcm, hcs, ?_⟩⟩
    simp only [Nat.mul_one] at htake
    rw [List.map_dropLast, ← htake]
    simp only [Nat.mul_one, List.dropLast_eq_take, List.take_take, List.length_take, Array.length_toList]
    congr 1
    omega
end OwnS

theorem OwnS.snoc {B : Nat} {w : World} {v : Value} {ps : List Bs} {p : Bs} {s : ByteArray} (h : w.ownsRow B 9 1 v (ps.length + 1) (ps.map vS ++ #[Value.string s].toList)) (hs : s = str p) : OwnS B w v (ps ++ [p]) := by
  unfold OwnS
  subst hs
  simpa [vS] using h

end Go.Proofs.YtlbccbikepkfiaaGreatDoor

namespace Go.Proofs.YtlbccbikepkfiaaGreatDoor
open Go.RowKit
set_option linter.unusedVariables false

theorem small_take_snoc (s : ByteArray) (k : Nat) (h : k < s.size) : s.data.toList.take (k + 1) = s.data.toList.take k ++ [s[k]] := by
  rw [List.take_succ_eq_append_getElem (by simpa using h)]; rfl
theorem all_take_snoc {s : ByteArray} {k : Nat} (h : k < s.size) (ha : (s.data.toList.take k).all small = true) (hc : small s[k] = true) : (s.data.toList.take (k + 1)).all small = true := by
  rw [small_take_snoc s k h]; simp [ha, hc]
theorem all_stop {s : ByteArray} {k : Nat} (h : k < s.size) (hc : small s[k] = false) : plain s.data.toList = false := by
  have : s[k] ∈ s.data.toList := Array.mem_toList_iff.2 (Array.getElem_mem (xs := s.data) (i := k) h)
  have h2 : s.data.toList.all small = false := by
    rw [List.all_eq_false]; exact ⟨_, this, by simp [hc]⟩
  simp [plain, h2]
theorem small_yes {c : UInt8} (h1 : 97 ≤ (c.toNat : Int)) (h2 : (c.toNat : Int) ≤ 122) : small c = true := decide_eq_true ⟨h1, h2⟩
theorem small_no {c : UInt8} (h : (c.toNat : Int) < 97 ∨ 122 < (c.toNat : Int)) : small c = false := decide_eq_false (by omega)
theorem plain_end {s : ByteArray} {k : Nat} (hk : s.size ≤ k) (ha : (s.data.toList.take k).all small = true) (b : Bool) (hb : b = !s.data.toList.isEmpty) : plain s.data.toList = b := by
  rw [List.take_of_length_le (by simpa using hk)] at ha
  simp [plain, ha, hb]
theorem str_ne_empty (s : ByteArray) : (!s.toList.isEmpty) = !s.data.toList.isEmpty := by rw [ByteArray.toList_eq]

set_option maxHeartbeats 400000 in
theorem l3Plain_any (s : ByteArray) (w : World) (hs : s.size ≤ 9223372036854775807) :
    Calls Tryz.prog 108 #[.string s] w fun e w' => e = .returned (.bool (plain s.data.toList)) ∧ w' = w := by
  go_enter Tryz.func108, Tryz.ntmps108
  go_wp2
  go_loop [3] (fun i => ∃ k : Nat, k ≤ s.size ∧ i = .int .i64 k ∧ (s.data.toList.take k).all small = true) (fun i => s.size - (intOf i).toNat)
  case atStart => exact ⟨0, Nat.zero_le _, rfl, rfl⟩
  case round =>
    obtain ⟨k, hk, rfl, ha⟩ := hrel
    have HA := hide ha
    clear ha
    by_cases hlt : k < s.size
    · by_cases c1 : (s[k].toNat : Int) < 97
      · have HN := hide (all_stop hlt (small_no (.inl c1)))
        go_wp2
        go_ret
        exact ⟨ret_bool HN.out.symm, rfl⟩
      · by_cases c2 : 122 < (s[k].toNat : Int)
        · have HN := hide (all_stop hlt (small_no (.inr c2)))
          go_wp2
          go_ret
          exact ⟨ret_bool HN.out.symm, rfl⟩
        · have HN := hide (all_take_snoc hlt HA.out (small_yes (by omega) (by omega)))
          go_wp2
          go_round
          case rel => exact ⟨k + 1, by omega, by go_num, HN.out⟩
          case measure => simp [intOf]; omega
    · have HN := hide (fun b hb => plain_end (s := s) (k := k) (by omega) HA.out b hb)
      go_wp2
      go_ret
      exact ⟨ret_bool (HN.out _ (str_ne_empty s)).symm, rfl⟩

set_option maxHeartbeats 400000 in
theorem isLetters_any (s : ByteArray) (w : World) (hs : s.size ≤ 9223372036854775807) :
    Calls Tryz.prog 90 #[.string s] w fun e w' => e = .returned (.bool (plain s.data.toList)) ∧ w' = w := by
  go_enter Tryz.func90, Tryz.ntmps90
  go_wp2
  go_loop [3, 6] (fun _ i => ∃ k : Nat, k ≤ s.size ∧ i = .int .i64 k ∧ (s.data.toList.take k).all small = true) (fun _ i => s.size - (intOf i).toNat)
  case atStart => exact ⟨0, Nat.zero_le _, rfl, rfl⟩
  case round =>
    obtain ⟨k, hk, rfl, ha⟩ := hrel
    have HA := hide ha
    clear ha
    by_cases hlt : k < s.size
    · by_cases c1 : (s[k].toNat : Int) < 97
      · have HN := hide (all_stop hlt (small_no (.inl c1)))
        go_wp2
        go_ret
        exact ⟨ret_bool HN.out.symm, rfl⟩
      · by_cases c2 : 122 < (s[k].toNat : Int)
        · have HN := hide (all_stop hlt (small_no (.inr c2)))
          go_wp2
          go_ret
          exact ⟨ret_bool HN.out.symm, rfl⟩
        · have HN := hide (all_take_snoc hlt HA.out (small_yes (by omega) (by omega)))
          go_wp2
          go_round
          case rel => exact ⟨k + 1, by omega, by go_num, HN.out⟩
          case measure => simp [intOf]; omega
    · have HN := hide (fun b hb => plain_end (s := s) (k := k) (by omega) HA.out b hb)
      go_wp2
      go_ret
      exact ⟨ret_bool (HN.out _ (str_ne_empty s)).symm, rfl⟩

theorem infoS : (Tryz.prog.info? 9).map (fun i => (i.zero, i.size, i.bytes)) = some (some (.string ⟨#[]⟩), 1, 16) := by kernel_rfl

/-- What the model has cut up to byte k, the piece at hand beginning at j. -/
def cutAt (l : Bs) (q : List Bs) (j k : Nat) : Prop := (k ≤ l.length → cutB (l.take k) = q ++ [(l.drop j).take (k - j)]) ∧ (l.length < k → q = cutB l)
theorem cutAt_zero (l : Bs) : cutAt l [] 0 0 := ⟨fun _ => by simp [cutB], fun h => by omega⟩
theorem take_piece (s : ByteArray) {j k : Nat} (hj : j ≤ k) (hk : k < s.size) : (s.data.toList.drop j).take (k + 1 - j) = (s.data.toList.drop j).take (k - j) ++ [s[k]] := by
  have e : k + 1 - j = (k - j) + 1 := by omega
  have hl : k - j < (s.data.toList.drop j).length := by simp; omega
  rw [e, List.take_succ_eq_append_getElem hl]
  congr 2
  rw [List.getElem_drop]
  have : j + (k - j) = k := by omega
  simp [this]
  rfl
theorem cutAt_end {l : Bs} {q : List Bs} {j : Nat} (h : cutAt l q j l.length) : cutAt l (q ++ [(l.drop j).take (l.length - j)]) (l.length + 1) (l.length + 1) := by
  refine ⟨fun h => by omega, fun _ => ?_⟩
  rw [← h.1 (Nat.le_refl _), List.take_length]
theorem cutAt_hit {s : ByteArray} {q : List Bs} {j k : Nat} (h : cutAt s.data.toList q j k) (hk : k < s.size) (hj : j ≤ k) (hc : s[k] = 47) : cutAt s.data.toList (q ++ [(s.data.toList.drop j).take (k - j)]) (k + 1) (k + 1) := by
  have hl : s.data.toList.length = s.size := (Lib.size_eq s).symm
  refine ⟨fun _ => ?_, fun h' => by omega⟩
  rw [small_take_snoc s k hk, cutB_snoc _ _ _ _ (h.1 (by omega)), if_pos hc]
  simp
theorem cutAt_miss {s : ByteArray} {q : List Bs} {j k : Nat} (h : cutAt s.data.toList q j k) (hk : k < s.size) (hj : j ≤ k) (hc : s[k] ≠ 47) : cutAt s.data.toList q j (k + 1) := by
  have hl : s.data.toList.length = s.size := (Lib.size_eq s).symm
  refine ⟨fun _ => ?_, fun h' => by omega⟩
  rw [small_take_snoc s k hk, cutB_snoc _ _ _ _ (h.1 (by omega)), if_neg hc, take_piece s hj hk]

set_option maxRecDepth 100000 in
set_option maxHeartbeats 1600000 in
theorem l3Cut_any (s : ByteArray) (w : World) (hs : s.size ≤ 2097152) :
    Calls Tryz.prog 49 #[.string s, .int .u8 47] w fun e w' => ∃ v, e = .returned v ∧ OwnS w.heap.size w' v (cutB s.data.toList) ∧ Below w.heap.size w w' := by
  obtain ⟨i1, ki, kz0, kz1, kz2⟩ := info_parts infoS
  have hl : s.data.toList.length = s.size := (Lib.size_eq s).symm
  have HL := hide hl
  clear hl
  have O1 := hide (World.ownsRow_made (base := w.heap.size) (e := 9) (size := 1) w #[] 0 (Nat.le_refl _) (Nat.zero_le _) rfl)
  go_enter Tryz.func49, Tryz.ntmps49
  go_wp2_with fail
  go_loopw [5, 6, 7] (fun v f i wr => ∃ (k j : Nat) (q : List Bs), k ≤ s.size + 1 ∧ j ≤ k ∧ q.length ≤ k ∧ i = .int .i64 k ∧ f = .int .i64 j ∧ Hid (OwnS w.heap.size wr v q) ∧ Hid (cutAt s.data.toList q j k) ∧ Hid (Below w.heap.size w wr)) (fun _ _ i _ => s.size + 1 - (intOf i).toNat)
  case atStart => exact ⟨0, 0, [], by omega, by omega, by simp, rfl, rfl, hide O1.out, hide (cutAt_zero _), hide (below_alloc _ _)⟩
  case round =>
    obtain ⟨k, j, q, hk, hj, hq, rfl, rfl, HO, HC, HB⟩ := hrel
    obtain ⟨va, vc, rfl⟩ := HO.out.shape
    have hm1 : q.length + 1 ≤ maxLen := by unfold maxLen; omega
    have hm2 : (q.length + 1) * 16 ≤ 140737488355328 := by omega
    have hsz := HB.out.size
    have HX := hide (show s.extract j k = str ((s.data.toList.drop j).take (k - j)) from Lib.extract_eq s j k)
    by_cases hlt : k < s.size
    · by_cases hc : (s[k].toNat : Int) = 47
      · have hne : ((k : Int) == (s.size : Int)) = false := by simp; omega
        have HN := hide (cutAt_hit HC.out hlt hj (by apply UInt8.toNat_inj.1; show _ = 47; omega))
        go_wp2_with (at_builtin; refine wpList_append_one rfl (.tmp 26) (.tmp 31) 54 rfl w.heap.size 9 i1 (.string ⟨#[]⟩) 1 16 Tryz.underlying54 ki kz0 kz1 kz2 rfl (by decide) _ _ _ rfl HO.out rfl rfl (by intro u hu; simp at hu; subst hu; rfl) hm1 hm2 hsz ?_; intro v' w2 hown2 hkept; have O2 := hide hown2; have K2 := hide hkept; clear hown2 hkept)
        go_roundw
        case rel => exact ⟨k + 1, k + 1, q ++ [(s.data.toList.drop j).take (k - j)], by omega, by omega, by simp; omega, by go_num, by go_num, hide (OwnS.snoc O2.out HX.out), HN, hide (Kept.below_own HB.out hsz HO.out K2.out)⟩
        case measure => simp [intOf]; omega
      · have hne : ((k : Int) == (s.size : Int)) = false := by simp; omega
        have hne2 : ((s[k].toNat : Int) == 47) = false := by simp; omega
        have HN := hide (cutAt_miss HC.out hlt hj (by intro e; apply hc; rw [e]; rfl))
        go_wp2
        go_roundw
        case rel => exact ⟨k + 1, j, q, by omega, by omega, by omega, by go_num, rfl, HO, HN, HB⟩
        case measure => simp [intOf]; omega
    · by_cases hk2 : k = s.size
      · subst hk2
        have HN := hide (show cutAt s.data.toList (q ++ [(s.data.toList.drop j).take (s.size - j)]) (s.size + 1) (s.size + 1) by have h := HC.out; rw [← HL.out] at h ⊢; exact cutAt_end h)
        go_wp2_with (at_builtin; refine wpList_append_one rfl (.tmp 26) (.tmp 31) 54 rfl w.heap.size 9 i1 (.string ⟨#[]⟩) 1 16 Tryz.underlying54 ki kz0 kz1 kz2 rfl (by decide) _ _ _ rfl HO.out rfl rfl (by intro u hu; simp at hu; subst hu; rfl) hm1 hm2 hsz ?_; intro v' w2 hown2 hkept; have O2 := hide hown2; have K2 := hide hkept; clear hown2 hkept)
        go_roundw
        case rel => exact ⟨s.size + 1, s.size + 1, q ++ [(s.data.toList.drop j).take (s.size - j)], by omega, by omega, by simp; omega, by go_num, by go_num, hide (OwnS.snoc O2.out HX.out), HN, hide (Kept.below_own HB.out hsz HO.out K2.out)⟩
        case measure => simp [intOf]
      · have hk3 : ¬ (k : Int) ≤ (s.size : Int) := by omega
        have HN := hide (HC.out.2 (by rw [HL.out]; omega))
        go_wp2
        go_ret
        exact ⟨_, rfl, by rw [← HN.out]; exact HO.out, HB.out⟩

end Go.Proofs.YtlbccbikepkfiaaGreatDoor

namespace Go.Proofs.YtlbccbikepkfiaaGreatDoor
open Go.RowKit Go.Shelf
set_option linter.unusedVariables false
def Tryz.joinA_ren : Go.Shelf.Ren := ⟨fun | 156 => 31 | 165 => 61 | 166 => 62 | 169 => 63 | 240 => 97 | 241 => 98 | 276 => 117 | 277 => 118 | n => n, fun | 31 => 54 | 9 => 9 | 3 => 3 | 4 => 4 | 0 => 0 | 20 => 20 | 72 => 95 | 76 => 97 | 70 => 93 | 37 => 22 | 75 => 83 | 127 => 131 | 164 => 152 | 5 => 5 | 80 => 99 | n => n, fun | n => n⟩
theorem Tryz.joinA : Go.Proofs.Lays.n156 Tryz.prog Tryz.joinA_ren := {
  mixed := by kernel_rfl
  f156 := Tryz.func31.trans (congrArg some (by kernel_rfl))
  f165 := Tryz.func61.trans (congrArg some (by kernel_rfl))
  f166 := Tryz.func62.trans (congrArg some (by kernel_rfl))
  f169 := Tryz.func63.trans (congrArg some (by kernel_rfl))
  f240 := Tryz.func97.trans (congrArg some (by kernel_rfl))
  f241 := Tryz.func98.trans (congrArg some (by kernel_rfl))
  f276 := Tryz.func117.trans (congrArg some (by kernel_rfl))
  f277 := Tryz.func118.trans (congrArg some (by kernel_rfl))
  t0 := Tryz.underlying0
  a0 := Tryz.isAgg0
  z0 := Tryz.sizeOf0
  v0 := Tryz.zeroValue0
  t3 := Tryz.underlying3
  a3 := Tryz.isAgg3
  z3 := Tryz.sizeOf3
  v3 := Tryz.zeroValue3
  t4 := Tryz.underlying4
  a4 := Tryz.isAgg4
  z4 := Tryz.sizeOf4
  v4 := Tryz.zeroValue4
  t9 := Tryz.underlying9
  a9 := Tryz.isAgg9
  z9 := Tryz.sizeOf9
  v9 := Tryz.zeroValue9
  t20 := Tryz.underlying20
  a20 := Tryz.isAgg20
  z20 := Tryz.sizeOf20
  v20 := Tryz.zeroValue20
  t31 := Tryz.underlying54
  a31 := Tryz.isAgg54
  z31 := Tryz.sizeOf54
  v31 := Tryz.zeroValue54
  t37 := Tryz.underlying22
  a37 := Tryz.isAgg22
  z37 := Tryz.sizeOf22
  v37 := Tryz.zeroValue22
  t70 := Tryz.underlying93
  a70 := Tryz.isAgg93
  z70 := Tryz.sizeOf93
  v70 := Tryz.zeroValue93
  t72 := Tryz.underlying95
  a72 := Tryz.isAgg95
  z72 := Tryz.sizeOf95
  v72 := Tryz.zeroValue95
  t75 := Tryz.underlying83
  a75 := Tryz.isAgg83
  z75 := Tryz.sizeOf83
  v75 := Tryz.zeroValue83
  t76 := Tryz.underlying97
  a76 := Tryz.isAgg97
  z76 := Tryz.sizeOf97
  v76 := Tryz.zeroValue97
  t127 := Tryz.underlying131
  a127 := Tryz.isAgg131
  z127 := Tryz.sizeOf131
  v127 := Tryz.zeroValue131
  t164 := Tryz.underlying152
  a164 := Tryz.isAgg152
  z164 := Tryz.sizeOf152
  v164 := Tryz.zeroValue152 }
def Tryz.cloneA_ren : Go.Shelf.Ren := ⟨fun | 316 => 101 | n => n, fun | 9 => 9 | 3 => 3 | 4 => 4 | 37 => 22 | 0 => 0 | 127 => 131 | 5 => 5 | n => n, fun | n => n⟩
theorem Tryz.cloneA : Go.Proofs.LaysM.n316 Tryz.prog Tryz.cloneA_ren := {
  mixed := by kernel_rfl
  f316 := Tryz.func101.trans (congrArg some (by kernel_rfl))
  t0 := Tryz.underlying0
  a0 := Tryz.isAgg0
  z0 := Tryz.sizeOf0
  v0 := Tryz.zeroValue0
  t3 := Tryz.underlying3
  a3 := Tryz.isAgg3
  z3 := Tryz.sizeOf3
  v3 := Tryz.zeroValue3
  t4 := Tryz.underlying4
  a4 := Tryz.isAgg4
  z4 := Tryz.sizeOf4
  v4 := Tryz.zeroValue4
  t9 := Tryz.underlying9
  a9 := Tryz.isAgg9
  z9 := Tryz.sizeOf9
  v9 := Tryz.zeroValue9
  t37 := Tryz.underlying22
  a37 := Tryz.isAgg22
  z37 := Tryz.sizeOf22
  v37 := Tryz.zeroValue22
  t127 := Tryz.underlying131
  a127 := Tryz.isAgg131
  z127 := Tryz.sizeOf131
  v127 := Tryz.zeroValue131
  t5 := Tryz.underlying5
  a5 := Tryz.isAgg5
  z5 := Tryz.sizeOf5
  v5 := Tryz.zeroValue5
  i0 := by kernel_rfl
  i3 := by kernel_rfl
  i4 := by kernel_rfl
  i5 := by kernel_rfl
  i9 := by kernel_rfl
  i37 := by kernel_rfl
  i127 := by kernel_rfl }
def Tryz.indexA_ren : Go.Shelf.Ren := ⟨fun | 219 => 119 | 217 => 128 | 225 => 129 | 224 => 130 | 267 => 131 | 266 => 138 | 314 => 139 | n => n, fun | 9 => 9 | 3 => 3 | 4 => 4 | 5 => 5 | 46 => 149 | 146 => 170 | 51 => 146 | n => n, fun | 1 => 2 | n => n⟩
theorem Tryz.indexA : Go.Proofs.Lays.n219 Tryz.prog Tryz.indexA_ren := {
  mixed := by kernel_rfl
  f217 := Tryz.func128.trans (congrArg some (by kernel_rfl))
  f219 := Tryz.func119.trans (congrArg some (by kernel_rfl))
  f224 := Tryz.func130.trans (congrArg some (by kernel_rfl))
  f225 := Tryz.func129.trans (congrArg some (by kernel_rfl))
  f266 := Tryz.func138.trans (congrArg some (by kernel_rfl))
  f267 := Tryz.func131.trans (congrArg some (by kernel_rfl))
  f314 := Tryz.func139.trans (congrArg some (by kernel_rfl))
  t3 := Tryz.underlying3
  a3 := Tryz.isAgg3
  z3 := Tryz.sizeOf3
  v3 := Tryz.zeroValue3
  t4 := Tryz.underlying4
  a4 := Tryz.isAgg4
  z4 := Tryz.sizeOf4
  v4 := Tryz.zeroValue4
  t5 := Tryz.underlying5
  a5 := Tryz.isAgg5
  z5 := Tryz.sizeOf5
  v5 := Tryz.zeroValue5
  t9 := Tryz.underlying9
  a9 := Tryz.isAgg9
  z9 := Tryz.sizeOf9
  v9 := Tryz.zeroValue9
  t46 := Tryz.underlying149
  a46 := Tryz.isAgg149
  z46 := Tryz.sizeOf149
  v46 := Tryz.zeroValue149
  t51 := Tryz.underlying146
  a51 := Tryz.isAgg146
  z51 := Tryz.sizeOf146
  v51 := Tryz.zeroValue146
  t146 := Tryz.underlying170
  a146 := Tryz.isAgg170
  z146 := Tryz.sizeOf170
  v146 := Tryz.zeroValue170
  g1 := by kernel_rfl }
def Tryz.prefixA_ren : Go.Shelf.Ren := ⟨fun | 103 => 88 | 210 => 110 | 206 => 125 | n => n, fun | 9 => 9 | 4 => 4 | 24 => 117 | 3 => 3 | n => n, fun | n => n⟩
theorem Tryz.prefixA : Go.Proofs.Lays.n103 Tryz.prog Tryz.prefixA_ren := {
  mixed := by kernel_rfl
  f103 := Tryz.func88.trans (congrArg some (by kernel_rfl))
  f206 := Tryz.func125.trans (congrArg some (by kernel_rfl))
  f210 := Tryz.func110.trans (congrArg some (by kernel_rfl))
  t3 := Tryz.underlying3
  a3 := Tryz.isAgg3
  z3 := Tryz.sizeOf3
  v3 := Tryz.zeroValue3
  t4 := Tryz.underlying4
  a4 := Tryz.isAgg4
  z4 := Tryz.sizeOf4
  v4 := Tryz.zeroValue4
  t9 := Tryz.underlying9
  a9 := Tryz.isAgg9
  z9 := Tryz.sizeOf9
  v9 := Tryz.zeroValue9
  t24 := Tryz.underlying117
  a24 := Tryz.isAgg117
  z24 := Tryz.sizeOf117
  v24 := Tryz.zeroValue117 }
theorem Tryz.joinX : Builder.Extra Tryz.prog Tryz.joinA_ren := {
  sizeBuilder := by kernel_rfl
  liesBuilder := by kernel_rfl
  t5 := Tryz.underlying5
  a5 := Tryz.isAgg5
  z5 := Tryz.sizeOf5
  v5 := Tryz.zeroValue5
  infoByte := by kernel_rfl
  cellsByte := by kernel_rfl
  sizeByte := by kernel_rfl
  neB5 := by decide }
end Go.Proofs.YtlbccbikepkfiaaGreatDoor

namespace Go.Proofs.YtlbccbikepkfiaaGreatDoor
open Go.RowKit
set_option linter.unusedVariables false

theorem joinC_lib (m : UInt8) : ∀ (ps : List Bs), Lib.join ps [m] = joinC m ps
  | [] => rfl
  | [p] => by simp [Lib.join_cons, Lib.joinTail, joinC]
  | p :: q :: r => by
    have ih := joinC_lib m (q :: r)
    rw [Lib.join_cons] at ih ⊢
    simp only [Lib.joinTail, List.map_cons, List.flatten_cons, joinC, List.cons_append, List.nil_append] at ih ⊢
    rw [ih]

/-- What the model has cut up to byte k, the piece at hand beginning at j. -/
def cutAtC (m : UInt8) (l : Bs) (q : List Bs) (j k : Nat) : Prop := (k ≤ l.length → cutC m (l.take k) = q ++ [(l.drop j).take (k - j)]) ∧ (l.length < k → q = cutC m l)
theorem cutAtC_zero (m : UInt8) (l : Bs) : cutAtC m l [] 0 0 := ⟨fun _ => by simp [cutC], fun h => by omega⟩
theorem cutAtC_end {m : UInt8} {l : Bs} {q : List Bs} {j : Nat} (h : cutAtC m l q j l.length) : cutAtC m l (q ++ [(l.drop j).take (l.length - j)]) (l.length + 1) (l.length + 1) := by
  refine ⟨fun h => by omega, fun _ => ?_⟩
  rw [← h.1 (Nat.le_refl _), List.take_length]
theorem cutAtC_hit {m : UInt8} {s : ByteArray} {q : List Bs} {j k : Nat} (h : cutAtC m s.data.toList q j k) (hk : k < s.size) (hj : j ≤ k) (hc : s[k] = m) : cutAtC m s.data.toList (q ++ [(s.data.toList.drop j).take (k - j)]) (k + 1) (k + 1) := by
  have hl : s.data.toList.length = s.size := (Lib.size_eq s).symm
  refine ⟨fun _ => ?_, fun h' => by omega⟩
  rw [small_take_snoc s k hk, cutC_snoc _ _ _ _ (h.1 (by omega)), if_pos hc]
  simp
theorem cutAtC_miss {m : UInt8} {s : ByteArray} {q : List Bs} {j k : Nat} (h : cutAtC m s.data.toList q j k) (hk : k < s.size) (hj : j ≤ k) (hc : s[k] ≠ m) : cutAtC m s.data.toList q j (k + 1) := by
  have hl : s.data.toList.length = s.size := (Lib.size_eq s).symm
  refine ⟨fun _ => ?_, fun h' => by omega⟩
  rw [small_take_snoc s k hk, cutC_snoc _ _ _ _ (h.1 (by omega)), if_neg hc, take_piece s hj hk]

set_option maxRecDepth 100000 in
set_option maxHeartbeats 1600000 in
theorem l3CutC_any (m : UInt8) (s : ByteArray) (w : World) (hs : s.size ≤ 2097152) :
    Calls Tryz.prog 49 #[.string s, .int .u8 m.toNat] w fun e w' => ∃ v, e = .returned v ∧ OwnS w.heap.size w' v (cutC m s.data.toList) ∧ Below w.heap.size w w' := by
  obtain ⟨i1, ki, kz0, kz1, kz2⟩ := info_parts infoS
  have hl : s.data.toList.length = s.size := (Lib.size_eq s).symm
  have HL := hide hl
  clear hl
  have O1 := hide (World.ownsRow_made (base := w.heap.size) (e := 9) (size := 1) w #[] 0 (Nat.le_refl _) (Nat.zero_le _) rfl)
  have hm0 := m.toNat_lt
  go_enter Tryz.func49, Tryz.ntmps49
  go_wp2_with fail
  go_loopw [5, 6, 7] (fun v f i wr => ∃ (k j : Nat) (q : List Bs), k ≤ s.size + 1 ∧ j ≤ k ∧ q.length ≤ k ∧ i = .int .i64 k ∧ f = .int .i64 j ∧ Hid (OwnS w.heap.size wr v q) ∧ Hid (cutAtC m s.data.toList q j k) ∧ Hid (Below w.heap.size w wr)) (fun _ _ i _ => s.size + 1 - (intOf i).toNat)
  case atStart => exact ⟨0, 0, [], by omega, by omega, by simp, rfl, rfl, hide O1.out, hide (cutAtC_zero m _), hide (below_alloc _ _)⟩
  case round =>
    obtain ⟨k, j, q, hk, hj, hq, rfl, rfl, HO, HC, HB⟩ := hrel
    obtain ⟨va, vc, rfl⟩ := HO.out.shape
    have hm1 : q.length + 1 ≤ maxLen := by unfold maxLen; omega
    have hm2 : (q.length + 1) * 16 ≤ 140737488355328 := by omega
    have hsz := HB.out.size
    have HX := hide (show s.extract j k = str ((s.data.toList.drop j).take (k - j)) from Lib.extract_eq s j k)
    by_cases hlt : k < s.size
    · by_cases hc : (s[k].toNat : Int) = m.toNat
      · have hne : ((k : Int) == (s.size : Int)) = false := by simp; omega
        have HN := hide (cutAtC_hit HC.out hlt hj (by apply UInt8.toNat_inj.1; omega))
        go_wp2_with (at_builtin; refine wpList_append_one rfl (.tmp 26) (.tmp 31) 54 rfl w.heap.size 9 i1 (.string ⟨#[]⟩) 1 16 Tryz.underlying54 ki kz0 kz1 kz2 rfl (by decide) _ _ _ rfl HO.out rfl rfl (by intro u hu; simp at hu; subst hu; rfl) hm1 hm2 hsz ?_; intro v' w2 hown2 hkept; have O2 := hide hown2; have K2 := hide hkept; clear hown2 hkept)
        go_roundw
        case rel => exact ⟨k + 1, k + 1, q ++ [(s.data.toList.drop j).take (k - j)], by omega, by omega, by simp; omega, by go_num, by go_num, hide (OwnS.snoc O2.out HX.out), HN, hide (Kept.below_own HB.out hsz HO.out K2.out)⟩
        case measure => simp [intOf]; omega
      · have hne : ((k : Int) == (s.size : Int)) = false := by simp; omega
        have hne2 : ((s[k].toNat : Int) == (m.toNat : Int)) = false := by simp; omega
        have HN := hide (cutAtC_miss HC.out hlt hj (by intro e; apply hc; rw [e]))
        go_wp2
        go_roundw
        case rel => exact ⟨k + 1, j, q, by omega, by omega, by omega, by go_num, rfl, HO, HN, HB⟩
        case measure => simp [intOf]; omega
    · by_cases hk2 : k = s.size
      · subst hk2
        have HN := hide (show cutAtC m s.data.toList (q ++ [(s.data.toList.drop j).take (s.size - j)]) (s.size + 1) (s.size + 1) by have h := HC.out; rw [← HL.out] at h ⊢; exact cutAtC_end h)
        go_wp2_with (at_builtin; refine wpList_append_one rfl (.tmp 26) (.tmp 31) 54 rfl w.heap.size 9 i1 (.string ⟨#[]⟩) 1 16 Tryz.underlying54 ki kz0 kz1 kz2 rfl (by decide) _ _ _ rfl HO.out rfl rfl (by intro u hu; simp at hu; subst hu; rfl) hm1 hm2 hsz ?_; intro v' w2 hown2 hkept; have O2 := hide hown2; have K2 := hide hkept; clear hown2 hkept)
        go_roundw
        case rel => exact ⟨s.size + 1, s.size + 1, q ++ [(s.data.toList.drop j).take (s.size - j)], by omega, by omega, by simp; omega, by go_num, by go_num, hide (OwnS.snoc O2.out HX.out), HN, hide (Kept.below_own HB.out hsz HO.out K2.out)⟩
        case measure => simp [intOf]
      · have hk3 : ¬ (k : Int) ≤ (s.size : Int) := by omega
        have HN := hide (HC.out.2 (by rw [HL.out]; omega))
        go_wp2
        go_ret
        exact ⟨_, rfl, by rw [← HN.out]; exact HO.out, HB.out⟩

theorem indexMark_any (m : UInt8) (s : ByteArray) (w : World) :
    Calls Tryz.prog 119 #[.string s, .string ⟨#[m]⟩] w fun e w' => e = .returned (.int .i64 (Lib.indexByte s.data.toList m)) ∧ w' = w :=
  Any.stringslite_Index_one Tryz.indexA s m w

theorem indexC_miss {m : UInt8} {l : Bs} (h : m ∉ l) : Lib.indexByte l m = -1 := by
  induction l with
  | nil => rfl
  | cons c l ih =>
    have h1 : ¬ c = m := fun e => h (by simp [e])
    have h2 : m ∉ l := fun e => h (by simp [e])
    simp [Lib.indexByte, h1, ih h2]
theorem indexC_hit {m : UInt8} {a : Bs} (b : Bs) (h : m ∉ a) : Lib.indexByte (a ++ m :: b) m = a.length := by
  induction a with
  | nil => simp [Lib.indexByte]
  | cons c a ih =>
    have h1 : ¬ c = m := fun e => h (by simp [e])
    have h2 : m ∉ a := fun e => h (by simp [e])
    have ih := ih h2
    simp only [List.cons_append, Lib.indexByte, ih]
    have : ((a.length : Int) == -1) = false := by simp
    simp [h1, this]

set_option maxRecDepth 100000 in
set_option maxHeartbeats 800000 in
theorem cutLiteC_miss (m : UInt8) (l : Bs) (w : World) (h : m ∉ l) :
    Calls Tryz.prog 107 #[.string (str l), .string ⟨#[m]⟩] w fun e w' => e = .returned (.tuple #[.string (str l), .string ⟨#[]⟩, .bool false]) ∧ ∃ n, w' = w.drewN n := by
  have HI := hide (indexC_miss h)
  go_enter Tryz.func107, Tryz.ntmps107
  go_wp2_with (go_at_call 119; refine (indexMark_any _ _ _).mono ?_; rintro e w' ⟨rfl, rfl⟩; rw [str_data, HI.out])
  go_ret3
  exact ⟨rfl, 0, rfl⟩
theorem cutStr_miss (m : UInt8) (l : Bs) (w : World) (h : m ∉ l) :
    Calls Tryz.prog 77 #[.string (str l), .string ⟨#[m]⟩] w fun e w' => e = .returned (.tuple #[.string (str l), .string ⟨#[]⟩, .bool false]) ∧ ∃ n, w' = w.drewN n := by
  go_enter Tryz.func77, Tryz.ntmps77
  go_wp2_with (go_at_call 107; refine (cutLiteC_miss _ _ _ h).mono ?_; rintro e w' ⟨rfl, n, rfl⟩)
  go_ret3
  exact ⟨rfl, n, rfl⟩
set_option maxRecDepth 100000 in
set_option maxHeartbeats 800000 in
theorem cutLiteC_hit (m : UInt8) (a b : Bs) (w : World) (h : m ∉ a) (hl : a.length ≤ 9223372036854775806) :
    Calls Tryz.prog 107 #[.string (str (a ++ m :: b)), .string ⟨#[m]⟩] w fun e w' => e = .returned (.tuple #[.string (str a), .string (str b), .bool true]) ∧ ∃ n, w' = w.drewN n := by
  have HI := hide (indexC_hit b h)
  have c0 : (0 : Int) ≤ a.length := by omega
  have c1 : (a.length : Int) ≤ ((str (a ++ m :: b)).size : Int) := by rw [str_size]; simp; omega
  have c2 : (a.length : Int) + 1 ≤ ((str (a ++ m :: b)).size : Int) := by rw [str_size]; simp; omega
  have HA := hide (show (str (a ++ m :: b)).extract 0 a.length = str a by rw [Lib.extract_eq, str_data]; simp [str])
  have HB := hide (show (str (a ++ m :: b)).extract (a.length + 1) (str (a ++ m :: b)).size = str b by rw [Lib.extract_eq, str_data, str_size, show (a ++ m :: b).drop (a.length + 1) = b by simp, List.take_of_length_le (by simp; omega)]; rfl)
  have hm : (a.length : Int) ≤ 9223372036854775806 := by omega
  generalize hx : str (a ++ m :: b) = x at *
  have HX := hide hx
  clear hx
  go_enter Tryz.func107, Tryz.ntmps107
  go_wp2_with (go_at_call 119; refine (indexMark_any _ _ _).mono ?_; rintro e w' ⟨rfl, rfl⟩; rw [← HX.out, str_data, HI.out, HX.out])
  go_region
  go_wp2
  go_ret3
  exact ⟨by rw [HA.out, HB.out]; rfl, 1, rfl⟩
theorem cutStr_hit (m : UInt8) (a b : Bs) (w : World) (h : m ∉ a) (hl : a.length ≤ 9223372036854775806) :
    Calls Tryz.prog 77 #[.string (str (a ++ m :: b)), .string ⟨#[m]⟩] w fun e w' => e = .returned (.tuple #[.string (str a), .string (str b), .bool true]) ∧ ∃ n, w' = w.drewN n := by
  go_enter Tryz.func77, Tryz.ntmps77
  go_wp2_with (go_at_call 107; refine (cutLiteC_hit _ _ _ _ h hl).mono ?_; rintro e w' ⟨rfl, n, rfl⟩)
  go_ret3
  exact ⟨rfl, n, rfl⟩

end Go.Proofs.YtlbccbikepkfiaaGreatDoor

namespace Go.Proofs.YtlbccbikepkfiaaGreatDoor
open Go.RowKit
set_option linter.unusedVariables false

theorem wpList_app {P : Program} {w : World} {ops : Array Oper} {rest : List Oper} {o : Oper} {a : Act} {Q : Exit → Act → World → Prop} (hgd : o.guard = none) (s x : Operand) (t : TypeId)
    (ho : o.op = .call { callee := .builtin .append, args := #[s, x], argTypes := #[t, t] })
    (base : Nat) (e : TypeId) (i : TypeInfo) (z : Value) (size bytes : Nat) (ht : P.underlying t = some (.slice e)) (hi : P.info? e = some i) (hz : i.zero = some z)
    (hsize : i.size = size) (hby : i.bytes = bytes) (hzs : z.cells.size = size) (hsz : 0 < size)
    (v : Value) (n : Nat) (xs : List Value) (hs : a.eval s = v) (hown : w.ownsRow base e size v n xs)
    (ad : Addr) (m c : Nat) (news : List Value) (hx : a.eval x = .slice (some ad) m c) (hl : news.length = m * size) (hnews : ∀ j u, news[j]? = some u → w.cell? (ad.add j) = some u) (h1 : ∀ u ∈ news, u.oneCell' = true)
    (N : Nat) (hN : n + m = N) (h63 : n + m ≤ maxLen) (hbytes : (n + m) * bytes ≤ 140737488355328) (hbase : base ≤ w.heap.size)
    (h : ∀ av cv w', w'.ownsRow base e size (.slice av N cv) N (xs ++ news) → Kept (fun b => v.ownBlock = some b) w w' → wpList P ops Q rest (a.put o.dst (.slice av N cv)) w') :
    wpList P ops Q (o :: rest) a w := by
  refine wpList_append_own w hgd s x t ho base e i z size bytes ht hi hz hsize hby hzs hsz v n xs hs hown ad m c news hx hl hnews h1 h63 hbytes hbase fun v' w' h2 h3 _ => ?_
  rw [hN] at h2
  obtain ⟨av, cv, rfl⟩ := ownsRow_shape h2
  exact h av cv w' h2 ⟨h3.os, h3.tape, h3.output, h3.size, fun q hq hn => h3.block q hq (fun e => hn e.symm)⟩
/-- append at a step of a region that draws its order. -/
theorem step_app {P : Program} {w : World} {ops : Array Oper} {o : Oper} {a : Act} {K : Act → World → Prop} {Q : Exit → Act → World → Prop} {E : Prop} (hgd : o.guard = none) (s x : Operand) (t : TypeId)
    (ho : o.op = .call { callee := .builtin .append, args := #[s, x], argTypes := #[t, t] })
    (base : Nat) (e : TypeId) (i : TypeInfo) (z : Value) (size bytes : Nat) (ht : P.underlying t = some (.slice e)) (hi : P.info? e = some i) (hz : i.zero = some z)
    (hsize : i.size = size) (hby : i.bytes = bytes) (hzs : z.cells.size = size) (hsz : 0 < size)
    (v : Value) (n : Nat) (xs : List Value) (hs : a.eval s = v) (hown : w.ownsRow base e size v n xs)
    (ad : Addr) (m c : Nat) (news : List Value) (hx : a.eval x = .slice (some ad) m c) (hl : news.length = m * size) (hnews : ∀ j u, news[j]? = some u → w.cell? (ad.add j) = some u) (h1 : ∀ u ∈ news, u.oneCell' = true)
    (N : Nat) (hN : n + m = N) (h63 : n + m ≤ maxLen) (hbytes : (n + m) * bytes ≤ 140737488355328) (hbase : base ≤ w.heap.size)
    (h : ∀ av cv w', w'.ownsRow base e size (.slice av N cv) N (xs ++ news) → Kept (fun b => v.ownBlock = some b) w w' → K (a.put o.dst (.slice av N cv)) w') :
    if Region.wanted o (yielded ops a.tmps) = true then Oper.wp P o a w K Q else E := by
  have hw : Region.wanted o (yielded ops a.tmps) = true := by simp [Region.wanted, hgd]
  rw [if_pos hw]
  refine wp_append_own w s x t ho base e i z size bytes ht hi hz hsize hby hzs hsz v n xs hs hown ad m c news hx hl hnews h1 h63 hbytes hbase fun v' w' h2 h3 _ => ?_
  rw [hN] at h2
  obtain ⟨av, cv, rfl⟩ := ownsRow_shape h2
  exact h av cv w' h2 ⟨h3.os, h3.tape, h3.output, h3.size, fun q hq hn => h3.block q hq (fun e => hn e.symm)⟩
theorem addr_add (b o j : Nat) : (⟨b, o, none⟩ : Addr).add j = ⟨b, o + j, none⟩ := by unfold Addr.add; split <;> simp_all
end Go.Proofs.YtlbccbikepkfiaaGreatDoor

namespace Go.Proofs.YtlbccbikepkfiaaGreatDoor
open Go.RowKit
set_option linter.unusedVariables false

/-- What is written into a list of n cells of kind i64, from k on. -/
def marks64 (k : Int) (n : Nat) : List Int := (List.range n).map fun (i : Nat) => k + i
theorem marks64_length (k : Int) (n : Nat) : (marks64 k n).length = n := by simp [marks64]
theorem marks64_getD (k : Int) (n i : Nat) (h : i < n) : (marks64 k n).getD i 0 = k + i := by simp [marks64, List.getD_eq_getElem?_getD, h]

theorem Tryz.infoI64 : (Tryz.prog.info? 2).map (fun i => (i.zero, i.size, i.bytes)) = some (some (.int .i64 0), 1, 8) := by kernel_rfl







end Go.Proofs.YtlbccbikepkfiaaGreatDoor

namespace Go.Proofs.YtlbccbikepkfiaaGreatDoor
open Go.RowKit
set_option linter.unusedVariables false
set_option maxRecDepth 100000

theorem snoc_at {α : Type} {l : List α} {k : Nat} {y : α} (h : l[k]? = some y) : l.take (k + 1) = l.take k ++ [y] := by
  obtain ⟨hk, he⟩ := List.getElem?_eq_some_iff.1 h
  rw [List.take_succ_eq_append_getElem hk, he]

theorem isDigest_any (n : Int) (w : World) : Calls Tryz.prog 91 #[.int .i64 n] w fun e w' => e = .returned (.bool (isDig n)) ∧ w' = w := by
  by_cases h : 0 ≤ n ∧ n ≤ 4294967295
  · have e : isDig n = true := by simp [isDig, h]
    rw [e]; exact implIsDigest_yes n w h.1 h.2
  · have e : isDig n = false := by simp [isDig]; omega
    rw [e]; exact implIsDigest_no n w (by omega)


set_option maxHeartbeats 1600000 in
theorem hexTexts_any (ds : List Int) (x : Option Addr) (c : Nat) (w : World) (h : Reads .i64 w x ds) (hd : ds.length ≤ 1048576) (hall : ∀ z ∈ ds, 0 ≤ z ∧ z ≤ 4294967295) :
    Calls Tryz.prog 60 #[.slice x ds.length c] w fun r w' => ∃ av cv, r = .returned (.slice av ds.length cv) ∧ OwnS w.heap.size w' (.slice av ds.length cv) (ds.map hexB) ∧ Below w.heap.size w w' := by
  have HR := hide h
  have HALL := hide hall
  clear h hall
  obtain ⟨i1, ki, kz0, kz1, kz2⟩ := info_parts infoS
  have hfd : ∀ (t : ByteArray) (w : World), (Instr.field 35 (.agg #[.int .i64 0, .string t]) 1).run Tryz.prog w = .ok (.string t) w := fun _ _ => by kernel_rfl
  go_enter Tryz.func60, Tryz.ntmps60
  go_wp2_with fail
  go_loopw [3, 5, 8] (fun v _ i wr => ∃ (k : Nat) (va : Option Addr) (vc : Nat), k ≤ ds.length ∧ i = .int .i64 k ∧ v = .slice va k vc ∧ Hid (wr.ownsRow w.heap.size 9 1 (.slice va k vc) k (((ds.take k).map hexB).map vS)) ∧ Hid (Below w.heap.size w wr)) (fun _ _ i _ => ds.length - (intOf i).toNat)
  case atStart => exact ⟨0, none, 0, Nat.zero_le _, rfl, rfl, hide (by simpa using World.ownsRow_nil _ _ _ _), hide (Below.refl _ _)⟩
  case round =>
    obtain ⟨k, va, vc, hk, rfl, rfl, HO, HB⟩ := hrel
    have hm1 : k + 1 ≤ maxLen := by unfold maxLen; omega
    have hm2 : (k + 1) * 16 ≤ 140737488355328 := by omega
    by_cases hlt : k < ds.length
    · obtain ⟨b, off, rfl, hb1, hcc⟩ := (HR.out.below HB.out) (by intro e; simp [e] at hlt)
      have hc1 := hcc k hlt
      have hzk : ds[k]? = some (ds.getD k 0) := by rw [List.getD_eq_getElem?_getD, List.getElem?_eq_getElem hlt]; rfl
      generalize ds.getD k 0 = y at hc1 hzk
      have HZ := hide hzk
      have HY := hide (HALL.out y (List.mem_of_getElem? hzk))
      clear hcc hzk
      go_wp2_with fail
      refine (implHexText_ok y _ HY.out.1 HY.out.2).mono ?_
      rintro r w1 ⟨rfl, hb1'⟩
      have HO1 := hide (ownsRow_below HO.out hb1')
      have HB1 := hide (below_next HB.out hb1')
      clear hb1' HO hc1
      have hsz := HB1.out.size
      go_wp2_with (at_builtin; refine wpList_append_one rfl (.tmp 12) (.tmp 16) 54 rfl w.heap.size 9 i1 (.string ⟨#[]⟩) 1 16 Tryz.underlying54 ki kz0 kz1 kz2 rfl (by decide) _ _ _ rfl HO1.out rfl rfl (by intro u hu; simp at hu; subst hu; rfl) hm1 hm2 hsz ?_; intro v' w2 hown2 hkept; have O2 := hide hown2; have K2 := hide hkept; clear hown2 hkept)
      obtain ⟨va2, vc2, hv2⟩ := ownsRow_shape O2.out
      subst hv2
      go_roundw
      case rel => exact ⟨k + 1, va2, vc2, by omega, by go_num, rfl, hide (by have h2 := O2.out; rw [snoc_at HZ.out, List.map_append, List.map_append]; rw [← str_hexB y] at h2; exact h2), hide (Kept.below_own HB1.out hsz HO1.out K2.out)⟩
      case measure => simp [intOf]; omega
    · have hk' : k = ds.length := by omega
      subst hk'
      have HO1 := hide (show OwnS w.heap.size wr (.slice va ds.length vc) (ds.map hexB) by have := HO.out; rw [List.take_length] at this; unfold OwnS; rw [List.length_map]; exact this)
      clear HO
      go_wp2_with fail
      go_ret
      exact ⟨va, vc, rfl, HO1.out, HB.out⟩
end Go.Proofs.YtlbccbikepkfiaaGreatDoor

namespace Go.Proofs.YtlbccbikepkfiaaGreatDoor
set_option linter.unusedVariables false

theorem packText_bad {n : Bs} {ds : List Int} (h : manFault n ds ≠ 0) : packText n ds = [] := by simp [packText, h]
theorem packText_good {n : Bs} {ds : List Int} (h : manFault n ds = 0) : packText n ds = imageB n ds := by simp [packText, h]

theorem joinC_bound {m : UInt8} {K : Nat} : ∀ (ps : List Bs), (∀ p ∈ ps, p.length ≤ K) → (joinC m ps).length ≤ ps.length * (K + 1)
  | [], _ => by simp [joinC]
  | [p], h => by have := h p (by simp); simp [joinC]; omega
  | p :: q :: r, h => by
    have h1 := h p (by simp)
    have h2 := joinC_bound (m := m) (q :: r) (fun x hx => h x (by simp at hx ⊢; exact .inr hx))
    have e : (joinC m (p :: q :: r)).length = p.length + ((joinC m (q :: r)).length + 1) := by simp [joinC]
    rw [e, List.length_cons, Nat.succ_mul]
    omega
theorem wordsM_bound {n : Bs} {ds : List Int} (h : FitM n ds) : (joinC 32 (wordsM n ds)).length ≤ 45 := by
  have h1 := joinC_bound (m := 32) (K := 8) (wordsM n ds) (fun p hp => by
    simp only [wordsM, List.mem_cons, List.mem_map] at hp
    rcases hp with rfl | rfl | ⟨z, -, rfl⟩
    · decide
    · have := h.len; omega
    · exact Nat.le_of_eq (hexB_length z))
  have h2 : (wordsM n ds).length = 2 + ds.length := by simp [wordsM]; omega
  have := h.many
  rw [h2] at h1
  omega
end Go.Proofs.YtlbccbikepkfiaaGreatDoor

namespace Go.Proofs.YtlbccbikepkfiaaGreatDoor
open Go.RowKit
set_option linter.unusedVariables false

theorem str_append (a b : Bs) : str a ++ str b = str (a ++ b) := by
  apply ByteArray.ext
  simp [str]
theorem take_snoc_at {α : Type} {ps : List α} {k : Nat} {p : α} (h : ps[k]? = some p) : ps.take (k + 1) = ps.take k ++ [p] := by
  obtain ⟨hk, e⟩ := List.getElem?_eq_some_iff.1 h
  rw [List.take_succ_eq_append_getElem hk, e]
theorem join_step {ps : List Bs} {k : Nat} {p : Bs} (h : ps[k]? = some p) : joinB (ps.take (k + 1)) = joinB (ps.take k) ++ 47 :: p := by
  rw [take_snoc_at h, join_append]
  simp [joinB]
theorem join_str (x p : Bs) : str x ++ (⟨#[47]⟩ : ByteArray) ++ str p = str (x ++ 47 :: p) := by
  have e : (⟨#[47]⟩ : ByteArray) = str [47] := rfl
  rw [e, str_append, str_append]
  simp
theorem join_take_le (ps : List Bs) (k : Nat) : (joinB (ps.take k)).length ≤ (joinB ps).length := by
  conv => rhs; rw [← List.take_append_drop k ps, join_append]
  simp

set_option maxRecDepth 100000 in
set_option maxHeartbeats 800000 in
theorem l3Join_any (a : Option Addr) (cap : Nat) (ps : List Bs) (w : World) (h : ReadsS w a ps) (hn : ps.length ≤ 4194304) (hj : (joinB ps).length ≤ 4194304) (n : Nat) (hpn : n = ps.length) :
    Calls Tryz.prog 74 #[.slice a n cap] w fun e w' => e = .returned (.string (str (joinB ps))) ∧ w' = w := by
  have HR := hide h
  clear h
  subst hpn
  go_enter Tryz.func74, Tryz.ntmps74
  go_wp2
  go_loop [3, 4] (fun o i => ∃ (k : Nat) (x : Bs), k ≤ ps.length ∧ i = .int .i64 k ∧ o = .string (str x) ∧ Hid (x = joinB (ps.take k))) (fun _ i => ps.length - (intOf i).toNat)
  case atStart => exact ⟨0, [], Nat.zero_le _, rfl, rfl, hide rfl⟩
  case round =>
    obtain ⟨k, x, hk, rfl, rfl, HX⟩ := hrel
    by_cases hlt : k < ps.length
    · obtain ⟨b, off, p, rfl, hb, hp, hck⟩ := HR.out.at hlt
      have HE := hide (join_step hp)
      have hz := join_take_le ps (k + 1)
      rw [HE.out, ← HX.out] at hz
      simp only [List.length_append, List.length_cons] at hz
      have hz1 : ¬ 9223372036854775807 < (str x).size + 1 := by rw [str_size]; omega
      have hz2 : ¬ 9223372036854775807 < (str x).size + 1 + (str p).size := by rw [str_size, str_size]; omega
      have HP := hide hp
      clear hp
      go_wp2
      go_round
      case rel => exact ⟨k + 1, x ++ 47 :: p, by omega, by go_num, by rw [join_str], hide (by rw [HE.out, HX.out])⟩
      case measure => simp [intOf]; omega
    · have HE := hide (show ps.take k = ps from List.take_of_length_le (by omega))
      go_wp2
      go_ret
      exact ⟨ret_str (by rw [HX.out, HE.out]), rfl⟩

theorem head_tail (s : ByteArray) (h : 0 < s.size) : s.data.toList = s[0] :: s.data.toList.tail := by
  have hl : 0 < s.data.toList.length := by rw [← Lib.size_eq]; exact h
  cases e : s.data.toList with
  | nil => rw [e] at hl; simp at hl
  | cons c r =>
    have : s[0] = s.data.toList[0] := rfl
    simp [this, e]
theorem tail_data (s : ByteArray) : (s.extract 1 s.size).data.toList = s.data.toList.tail := by
  rw [Lib.extract_data, List.drop_one, List.take_of_length_le (by rw [List.length_tail, ← Lib.size_eq]; exact Nat.le_refl _)]
theorem extract_le (s : ByteArray) (a b : Nat) : (s.extract a b).size ≤ s.size := by
  rw [Lib.size_eq, Lib.extract_data, Lib.size_eq s]
  simp
  omega
theorem isEmpty_no {s : ByteArray} (h : 0 < s.size) : s.toList.isEmpty = false := by
  rw [ByteArray.toList_eq, head_tail s h]; rfl
theorem faultP_no {s : ByteArray} (h : 0 < s.size) (hc : s[0] ≠ 47) : faultP s.data.toList = 5 := by
  rw [head_tail s h]; simp [faultP, hc]
theorem faultP_yes {s : ByteArray} (h : 0 < s.size) (hc : s[0] = 47) : faultP s.data.toList = faultN (cutB s.data.toList.tail) := by
  conv => lhs; rw [head_tail s h]
  simp [faultP, hc]
theorem faultN_text {ns : List Bs} {k : Nat} {p : Bs} (h : ns[k]? = some p) (hp : plain p = false) : faultN ns = 5 := by
  have : ns.all plain = false := by rw [List.all_eq_false]; exact ⟨p, List.mem_of_getElem? h, by simp [hp]⟩
  simp [faultN, this]
theorem all_snoc {f : Bs → Bool} {ns : List Bs} {k : Nat} {p : Bs} (h : ns[k]? = some p) (ha : (ns.take k).all f = true) (hp : f p = true) : (ns.take (k + 1)).all f = true := by
  rw [take_snoc_at h]; simp [ha, hp]
theorem faultN_long {ns : List Bs} {k : Nat} {p : Bs} (ha : ns.all plain = true) (h : ns[k]? = some p) (hp : 4 < p.length) : faultN ns = 2 := by
  have : ns.all (fun n => decide (n.length ≤ 4)) = false := by rw [List.all_eq_false]; exact ⟨p, List.mem_of_getElem? h, by simp; omega⟩
  simp [faultN, ha, this]
theorem faultN_many {ns : List Bs} (ha : ns.all plain = true) (h : 3 < ns.length) : faultN ns = 2 := by
  have : ¬ ns.length ≤ 3 := by omega
  simp [faultN, ha, this]
theorem faultN_ok {ns : List Bs} (ha : ns.all plain = true) (hb : ns.all (fun n => decide (n.length ≤ 4)) = true) (h : ns.length ≤ 3) : faultN ns = 0 := by
  simp only [faultN, ha, hb, h, decide_true, Bool.and_self, if_true]
theorem all_end {f : Bs → Bool} {ns : List Bs} {k : Nat} (hk : ns.length ≤ k) (ha : (ns.take k).all f = true) : ns.all f = true := by
  rwa [List.take_of_length_le hk] at ha

set_option maxRecDepth 100000 in
set_option maxHeartbeats 1600000 in
theorem l3Fault_any (s : ByteArray) (w : World) (hs : s.size ≤ 2097152) :
    Calls Tryz.prog 81 #[.string s] w fun e w' => e = .returned (.int .i64 (faultP s.data.toList)) ∧ Below w.heap.size w w' := by
  by_cases h0 : 0 < s.size
  · have he := isEmpty_no h0
    by_cases hc : (s[0].toNat : Int) = 47
    · have HF := hide (faultP_yes h0 (by apply UInt8.toNat_inj.1; show _ = 47; omega))
      have HT := hide (tail_data s)
      have hel := extract_le s 1 s.size
      have hcl := cutB_length s.data.toList.tail
      have hel2 : s.data.toList.tail.length ≤ s.size := by rw [List.length_tail, ← Lib.size_eq]; omega
      have HEa := hide (cutB_each s.data.toList.tail)
      generalize hns : cutB s.data.toList.tail = ns at *
      have HN := hide hns
      clear hns
      have h1 : (1 : Int) ≤ (s.size : Int) := by omega
      go_enter Tryz.func81, Tryz.ntmps81
      go_wp2_with fail
      refine (l3Cut_any _ _ (by omega)).mono ?_
      rintro e w1 ⟨v, rfl, hO, hb1⟩
      rw [HT.out, HN.out] at hO
      obtain ⟨va, vc, rfl⟩ := hO.shape
      have HR := hide hO.reads
      have HB := hide hb1
      clear hO hb1
      go_wp2_with fail
      go_loop [4] (fun i => ∃ k : Nat, k ≤ ns.length ∧ i = .int .i64 k ∧ Hid ((ns.take k).all plain = true)) (fun i => ns.length - (intOf i).toNat)
      case atStart => exact ⟨0, Nat.zero_le _, rfl, hide (by simp)⟩
      case round =>
        obtain ⟨k, hk, rfl, HA⟩ := hrel
        by_cases hlt : k < ns.length
        · obtain ⟨b, off, p, rfl, hb, hp, hck⟩ := HR.out.at hlt
          have hpz : p.length ≤ 2097152 := by have := HEa.out p (List.mem_of_getElem? hp); omega
          have HP := hide hp
          clear hp
          cases hpl : plain p
          · have HZ := hide (faultN_text HP.out hpl)
            have HPL := hide hpl
            clear hpl
            go_wp2_with (go_at_call 108; refine (l3Plain_any _ _ (by rw [str_size]; omega)).mono ?_; rintro e w' ⟨rfl, rfl⟩; rw [str_data, HPL.out])
            go_ret
            exact ⟨ret_int (by rw [HF.out, HZ.out]), HB.out⟩
          · have HZ := hide (all_snoc HP.out HA.out hpl)
            have HPL := hide hpl
            clear hpl
            go_wp2_with (go_at_call 108; refine (l3Plain_any _ _ (by rw [str_size]; omega)).mono ?_; rintro e w' ⟨rfl, rfl⟩; rw [str_data, HPL.out])
            go_round
            case rel => exact ⟨k + 1, by omega, by go_num, HZ⟩
            case measure => simp [intOf]; omega
        · have HAll := hide (all_end (by omega) HA.out)
          clear HA
          go_wp2_with fail
          go_loop [5] (fun i => ∃ k : Nat, k ≤ ns.length ∧ i = .int .i64 k ∧ Hid ((ns.take k).all (fun n => decide (n.length ≤ 4)) = true)) (fun i => ns.length - (intOf i).toNat)
          case atStart => exact ⟨0, Nat.zero_le _, rfl, hide (by simp)⟩
          case round =>
            obtain ⟨m, hm, rfl, HA⟩ := hrel
            by_cases hlt2 : m < ns.length
            · obtain ⟨b, off, p, rfl, hb, hp, hck⟩ := HR.out.at hlt2
              have HP := hide hp
              clear hp
              by_cases hl4 : 4 < p.length
              · have HZ := hide (faultN_long HAll.out HP.out hl4)
                have hl5 : (4 : Int) < ((str p).size : Int) := by rw [str_size]; omega
                go_wp2_with fail
                go_ret
                exact ⟨ret_int (by rw [HF.out, HZ.out]), HB.out⟩
              · have HZ := hide (all_snoc HP.out HA.out (by simp; omega))
                have hl5 : ¬ (4 : Int) < ((str p).size : Int) := by rw [str_size]; omega
                go_wp2_with fail
                go_round
                case rel => exact ⟨m + 1, by omega, by go_num, HZ⟩
                case measure => simp [intOf]; omega
            · have HAll2 := hide (all_end (by omega) HA.out)
              clear HA
              by_cases hl3 : 3 < ns.length
              · have HZ := hide (faultN_many HAll.out hl3)
                have hl5 : (3 : Int) < (ns.length : Int) := by omega
                go_wp2_with fail
                go_ret
                exact ⟨ret_int (by rw [HF.out, HZ.out]), HB.out⟩
              · have HZ := hide (faultN_ok HAll.out HAll2.out (by omega))
                have hl5 : ¬ (3 : Int) < (ns.length : Int) := by omega
                go_wp2_with fail
                go_ret
                exact ⟨ret_int (by rw [HF.out, HZ.out]), HB.out⟩
    · have HF := hide (faultP_no h0 (by intro e; apply hc; rw [e]; rfl))
      have hc2 : ((s[0].toNat : Int) != 47) = true := by simp; omega
      go_enter Tryz.func81, Tryz.ntmps81
      go_wp2
      go_ret
      exact ⟨ret_int (by rw [HF.out]), Below.refl _ _⟩
  · have he : s = ⟨#[]⟩ := by
      have := Lib.size_eq s
      apply ByteArray.ext
      apply Array.toList_inj.1
      exact List.length_eq_zero_iff.1 (by omega)
    subst he
    go_enter Tryz.func81, Tryz.ntmps81
    go_wp2
    go_ret
    exact ⟨rfl, Below.refl _ _⟩

end Go.Proofs.YtlbccbikepkfiaaGreatDoor

namespace Go.Proofs.YtlbccbikepkfiaaGreatDoor
open Go.RowKit
set_option linter.unusedVariables false
set_option maxRecDepth 100000

theorem joinMark_any (m : UInt8) (a : Option Addr) (c n : Nat) (ps : List Bs) (w : World) (h : ReadsS w a ps) (hne : ps ≠ []) (hn : n = ps.length) (hc : n ≤ c) (hs : ps.length ≤ 1048576) (hl : (joinC m ps).length ≤ 140737488355328) :
    Calls Tryz.prog 31 #[.slice a n c, .string ⟨#[m]⟩] w fun e w' => e = .returned (.string (str (joinC m ps))) ∧ Below w.heap.size w w' := by
  obtain ⟨b, off, rfl, hb, hcell⟩ := h hne
  have mapstr : (ps.map str).map (fun x => x.data.toList) = ps := by
    rw [List.map_map]
    conv => rhs; rw [← List.map_id ps]
    apply List.map_congr_left
    intro p _
    exact str_data p
  have := Any.strings_Join Tryz.joinA Tryz.joinX b off c (ps.map str) ⟨#[m]⟩ w
    (fun j x hx => by
      rw [List.getElem?_map] at hx
      cases e : ps[j]? with
      | none => rw [e] at hx; simp at hx
      | some p =>
        rw [e] at hx
        simp at hx
        obtain ⟨hj, _⟩ := List.getElem?_eq_some_iff.1 e
        rw [hcell j hj, ← hx]
        simp [List.getD_eq_getElem?_getD, e])
    hb (by simp; omega) (by simp; omega)
    (by rw [mapstr]; show (Lib.join ps [m]).length ≤ _; rw [joinC_lib]; omega)
  rw [mapstr, List.length_map, ← hn] at this
  have e : Lib.join ps [m] = joinC m ps := joinC_lib m ps
  rw [← e]
  exact this

theorem own_full {base n : Nat} {e : TypeId} (w : World) (cur : Array Value) (hb : base ≤ w.heap.size) (hm : n ≤ maxLen) (hs : cur.size = n) :
    (w.alloc (.cells cur e)).ownsRow base e 1 (.slice (some ⟨w.heap.size, 0, none⟩) n n) n cur.toList :=
  ⟨by simp [hs], .inr ⟨w.heap.size, n, cur, rfl, hb, heap_alloc_new w _, Nat.le_refl _, hm, by omega, by rw [Nat.mul_one, ← hs, ← Array.length_toList, List.take_length]⟩⟩
theorem news_strs {w : World} {b off : Nat} {ps : List Bs} (h : ∀ i, i < ps.length → w.cell? ⟨b, off + i, none⟩ = some (.string (str (ps.getD i [])))) : ∀ j u, (ps.map vS)[j]? = some u → w.cell? ((⟨b, off, none⟩ : Addr).add j) = some u := by
  intro j u hj
  rw [addr_add]
  rw [List.getElem?_map] at hj
  cases e : ps[j]? with
  | none => rw [e] at hj; simp at hj
  | some p =>
    rw [e] at hj
    simp at hj
    obtain ⟨hl, _⟩ := List.getElem?_eq_some_iff.1 e
    rw [h j hl, ← hj]
    simp [List.getD_eq_getElem?_getD, e, vS]

end Go.Proofs.YtlbccbikepkfiaaGreatDoor

namespace Go.Proofs.YtlbccbikepkfiaaGreatDoor
open Go.RowKit
set_option linter.unusedVariables false
set_option maxRecDepth 100000

theorem cut_one {m : UInt8} {l a : Bs} (h : cutC m l = [a]) : l = a ∧ m ∉ l := by
  have h1 := joinC_cut m l
  rw [h] at h1
  have h2 := cutC_no (m := m) l a (by rw [h]; simp)
  have e : a = l := h1
  exact ⟨e.symm, e ▸ h2⟩
theorem cut_more {m : UInt8} {l a : Bs} {r : List Bs} (h : cutC m l = a :: r) (hr : r ≠ []) : l = a ++ m :: joinC m r ∧ m ∉ a ∧ cutC m (joinC m r) = r := by
  have h1 := joinC_cut m l
  rw [h, joinC_two m a hr] at h1
  exact ⟨h1.symm, cutC_no (m := m) l a (by rw [h]; simp), cut_joinC hr (fun p hp => cutC_no (m := m) l p (by rw [h]; simp [hp]))⟩

theorem boxTwo {w : World} {B : Nat} {u v : Value} (h : Box w B u v) (u' v' : Value) : Box ((w.setCell ⟨B, 0, none⟩ u').setCell ⟨B, 1, none⟩ v') B u' v' := by
  obtain ⟨⟨m0, m1⟩, m2, m3⟩ := h
  refine ⟨⟨?_, ?_⟩, ?_, ?_⟩
  · rw [cell_set_other (by simp)]; exact cell_set_same m0
  · exact cell_set_same (u := v) (by rw [cell_set_other (by simp)]; exact m1)
  · rw [World.frozen?_setCell, World.frozen?_setCell]; exact m2
  · rw [World.frozen?_setCell, World.frozen?_setCell]; exact m3
theorem keptTwo (w : World) (b n : Nat) (u v : Value) : Kept (fun x => x = b) w (((w.drewN n).setCell ⟨b, 0, none⟩ u).setCell ⟨b, 1, none⟩ v) :=
  Kept.setCell (p := ⟨b, 1, none⟩) (Kept.setCell (p := ⟨b, 0, none⟩) (S := fun x => x = b) (⟨rfl, rfl, rfl, Nat.le_refl _, fun _ _ _ => rfl⟩ : Kept (fun x => x = b) w (w.drewN n)) (fun _ => rfl) u) (fun _ => rfl) v
theorem strNo {a b : Bs} (h : a ≠ b) : ((str a).toList == (str b).toList) = false := by
  rw [ByteArray.toList_eq, ByteArray.toList_eq, str_data, str_data, beq_eq_false_iff_ne]; exact h

/-- The panic that all readers leave by. -/
abbrev Dies (u : TypeId) (vp : Value) : Ending := .panicked [{ v := .iface u vp, recovered := false }]
set_option maxHeartbeats 800000 in
theorem next_no (b : Nat) (l : Bs) (mk : ByteArray) (u : TypeId) (vp : Value) (w : World) (hx : Box w b (.string (str l)) (.bool false)) (hg : w.cell? ⟨0, 0, none⟩ = some (.iface u vp)) :
    Calls Tryz.prog 47 #[.pointer (some ⟨b, 0, none⟩), .string mk] w fun r w' => r = Dies u vp ∧ w' = w := by
  obtain ⟨⟨t0, t1⟩, t2, t3⟩ := hx
  go_enter Tryz.func47, Tryz.ntmps47
  go_wp2_with fail
  exact ⟨rfl, rfl, rfl⟩
set_option maxHeartbeats 800000 in
theorem next_yes (m : UInt8) (b : Nat) (l a : Bs) (r : List Bs) (w : World) (hx : Box w b (.string (str l)) (.bool true)) (hc : cutC m l = a :: r) (hl : l.length ≤ 2097152) :
    Calls Tryz.prog 47 #[.pointer (some ⟨b, 0, none⟩), .string ⟨#[m]⟩] w fun e w' => e = .returned (.string (str a)) ∧ Box w' b (.string (str (joinC m r))) (.bool (decide (r ≠ []))) ∧ Kept (fun x => x = b) w w' ∧ w'.heap.size = w.heap.size := by
  have HX := hide hx
  obtain ⟨⟨t0, t1⟩, t2, t3⟩ := hx
  by_cases hr : r = []
  · subst hr
    obtain ⟨hla, hm⟩ := cut_one hc
    subst hla
    have HM := hide hm
    clear hc hm
    go_enter Tryz.func47, Tryz.ntmps47
    go_wp2_with fail
    refine (cutStr_miss m l _ HM.out).mono ?_
    rintro e w1 ⟨rfl, n, rfl⟩
    go_wp2_with fail
    go_ret
    exact ⟨rfl, boxTwo (w := w.drewN n) HX.out _ _, keptTwo w b n _ _, by simp [World.setCell]⟩
  · obtain ⟨hla, hm, -⟩ := cut_more hc hr
    have hal : a.length ≤ 9223372036854775806 := by rw [hla] at hl; simp at hl; omega
    rw [hla] at HX t0
    have HM := hide hm
    have hd : decide (r ≠ []) = true := by simp [hr]
    clear hc hm hla hl hr
    generalize joinC m r = R at *
    go_enter Tryz.func47, Tryz.ntmps47
    go_wp2_with fail
    refine (cutStr_hit m a R _ HM.out hal).mono ?_
    rintro e w1 ⟨rfl, n, rfl⟩
    go_wp2_with fail
    go_ret
    exact ⟨rfl, by rw [hd]; exact boxTwo (w := w.drewN n) HX.out _ _, keptTwo w b n _ _, by simp [World.setCell]⟩

theorem hexW_yes {l : Bs} {d : Int} (h : hexW l = some d) : pvCode (str l) = 0 ∧ pvValue (str l) = d := by
  unfold hexW at h
  unfold pvCode pvValue
  rw [str_size, str_data]
  by_cases h8 : l.length = 8
  · rw [if_pos h8] at h
    simp [h8, h]
  · rw [if_neg h8] at h; cases h
theorem hexW_no {l : Bs} (h : hexW l = none) : pvCode (str l) = 5 := by
  unfold hexW at h
  unfold pvCode
  rw [str_size, str_data]
  by_cases h8 : l.length = 8
  · rw [if_pos h8] at h
    simp [h]
  · simp [h8]
set_option maxHeartbeats 800000 in
theorem readDigest_yes (l : Bs) (d : Int) (w : World) (h : hexW l = some d) : Calls Tryz.prog 68 #[.string (str l)] w fun r w' => r = .returned (.int .i64 d) ∧ Below w.heap.size w w' := by
  have HC := hide (hexW_yes h)
  clear h
  go_enter Tryz.func68, Tryz.ntmps68
  go_wp2_with fail
  refine (implParseHex_any (str l) w).mono ?_
  rw [HC.out.1, HC.out.2]
  rintro r w1 ⟨rfl, hb1⟩
  have B1 := hide (below_next hb1 (below_alloc w1 (.cells #[.int .i64 0, .int .i64 d] 137)))
  clear hb1
  go_wp2_with fail
  go_ret
  exact ⟨rfl, B1.out⟩
set_option maxHeartbeats 800000 in
theorem readDigest_no (l : Bs) (u : TypeId) (vp : Value) (w : World) (h : hexW l = none) (hg : ∀ w' : World, Below w.heap.size w w' → w'.cell? ⟨0, 0, none⟩ = some (.iface u vp)) :
    Calls Tryz.prog 68 #[.string (str l)] w fun r w' => r = Dies u vp ∧ Below w.heap.size w w' := by
  have HG := hide hg
  have HC := hide (hexW_no h)
  clear hg h
  go_enter Tryz.func68, Tryz.ntmps68
  go_wp2_with fail
  refine (implParseHex_any (str l) w).mono ?_
  rw [HC.out]
  generalize pvValue (str l) = V
  rintro r w1 ⟨rfl, hb1⟩
  have B1 := hide (below_next hb1 (below_alloc w1 (.cells #[.int .i64 5, .int .i64 V] 137)))
  clear hb1
  have hcell := HG.out _ B1.out
  go_wp2_with fail
  exact ⟨rfl, rfl, B1.out⟩

set_option maxHeartbeats 800000 in
theorem mustTell_yes (s : Bs) (w : World) : Calls Tryz.prog 22 #[.agg #[.int .i64 0, .string (str s)], .string (str s)] w fun r w' => r = .returned (.tuple #[]) ∧ Below w.heap.size w w' := by
  have B0 := hide (below_alloc w (.cells #[.int .i64 0, .string (str s)] 35))
  obtain ⟨⟨m0, m1⟩, m2, m3⟩ := Box.new w (.int .i64 0) (.string (str s)) 35
  go_enter Tryz.func22, Tryz.ntmps22
  go_wp2_with fail
  first | go_end0 | skip
  exact ⟨rfl, B0.out⟩
set_option maxHeartbeats 800000 in
theorem mustTell_no (c : Int) (s t : Bs) (u : TypeId) (vp : Value) (w : World) (h : c ≠ 0 ∨ s ≠ t) (hg : ∀ w' : World, Below w.heap.size w w' → w'.cell? ⟨0, 0, none⟩ = some (.iface u vp)) :
    Calls Tryz.prog 22 #[.agg #[.int .i64 c, .string (str s)], .string (str t)] w fun r w' => r = Dies u vp ∧ Below w.heap.size w w' := by
  have B0 := hide (below_alloc w (.cells #[.int .i64 c, .string (str s)] 35))
  have hcell := hg _ B0.out
  clear hg
  obtain ⟨⟨m0, m1⟩, m2, m3⟩ := Box.new w (.int .i64 c) (.string (str s)) 35
  by_cases hc : c = 0
  · subst hc
    have hst : s ≠ t := h.elim (fun h => absurd rfl h) id
    have hs0 : ((str s).toList == (str t).toList) = false := strNo hst
    clear h hst
    go_enter Tryz.func22, Tryz.ntmps22
    go_wp2_with fail
    exact ⟨rfl, rfl, B0.out⟩
  · have hne : (c != 0) = true := by simp [hc]
    clear h hc
    go_enter Tryz.func22, Tryz.ntmps22
    go_wp2_with fail
    exact ⟨rfl, rfl, B0.out⟩
end Go.Proofs.YtlbccbikepkfiaaGreatDoor

namespace Go.Proofs.YtlbccbikepkfiaaGreatDoor
open Go.RowKit Go.Shelf
set_option linter.unusedVariables false
def Tryz.fmtA_ren : Go.Shelf.Ren := ⟨fun | 173 => 29 | 246 => 59 | 283 => 92 | 284 => 93 | 285 => 94 | 286 => 95 | 129 => 113 | 317 => 112 | 318 => 114 | 319 => 115 | 320 => 116 | 337 => 126 | 338 => 127 | n => n, fun | 2 => 2 | 3 => 3 | 9 => 9 | 4 => 4 | 171 => 124 | 0 => 0 | 53 => 125 | 37 => 22 | 5 => 5 | 173 => 128 | 212 => 145 | 51 => 146 | 20 => 20 | 213 => 147 | 46 => 149 | 232 => 168 | 233 => 169 | n => n, fun | 17 => 1 | 18 => 3 | 19 => 4 | n => n⟩
theorem Tryz.fmtA : Go.Proofs.Lays.n173 Tryz.prog Tryz.fmtA_ren := {
  mixed := by kernel_rfl
  f129 := Tryz.func113.trans (congrArg some (by kernel_rfl))
  f173 := Tryz.func29.trans (congrArg some (by kernel_rfl))
  f246 := Tryz.func59.trans (congrArg some (by kernel_rfl))
  f283 := Tryz.func92.trans (congrArg some (by kernel_rfl))
  f284 := Tryz.func93.trans (congrArg some (by kernel_rfl))
  f285 := Tryz.func94.trans (congrArg some (by kernel_rfl))
  f286 := Tryz.func95.trans (congrArg some (by kernel_rfl))
  f317 := Tryz.func112.trans (congrArg some (by kernel_rfl))
  f318 := Tryz.func114.trans (congrArg some (by kernel_rfl))
  f319 := Tryz.func115.trans (congrArg some (by kernel_rfl))
  f320 := Tryz.func116.trans (congrArg some (by kernel_rfl))
  f337 := Tryz.func126.trans (congrArg some (by kernel_rfl))
  f338 := Tryz.func127.trans (congrArg some (by kernel_rfl))
  t0 := Tryz.underlying0
  a0 := Tryz.isAgg0
  z0 := Tryz.sizeOf0
  v0 := Tryz.zeroValue0
  t2 := Tryz.underlying2
  a2 := Tryz.isAgg2
  z2 := Tryz.sizeOf2
  v2 := Tryz.zeroValue2
  t3 := Tryz.underlying3
  a3 := Tryz.isAgg3
  z3 := Tryz.sizeOf3
  v3 := Tryz.zeroValue3
  t4 := Tryz.underlying4
  a4 := Tryz.isAgg4
  z4 := Tryz.sizeOf4
  v4 := Tryz.zeroValue4
  t5 := Tryz.underlying5
  a5 := Tryz.isAgg5
  z5 := Tryz.sizeOf5
  v5 := Tryz.zeroValue5
  t9 := Tryz.underlying9
  a9 := Tryz.isAgg9
  z9 := Tryz.sizeOf9
  v9 := Tryz.zeroValue9
  t20 := Tryz.underlying20
  a20 := Tryz.isAgg20
  z20 := Tryz.sizeOf20
  v20 := Tryz.zeroValue20
  t37 := Tryz.underlying22
  a37 := Tryz.isAgg22
  z37 := Tryz.sizeOf22
  v37 := Tryz.zeroValue22
  t46 := Tryz.underlying149
  a46 := Tryz.isAgg149
  z46 := Tryz.sizeOf149
  v46 := Tryz.zeroValue149
  t51 := Tryz.underlying146
  a51 := Tryz.isAgg146
  z51 := Tryz.sizeOf146
  v51 := Tryz.zeroValue146
  t53 := Tryz.underlying125
  a53 := Tryz.isAgg125
  z53 := Tryz.sizeOf125
  v53 := Tryz.zeroValue125
  t171 := Tryz.underlying124
  a171 := Tryz.isAgg124
  z171 := Tryz.sizeOf124
  v171 := Tryz.zeroValue124
  t173 := Tryz.underlying128
  a173 := Tryz.isAgg128
  z173 := Tryz.sizeOf128
  v173 := Tryz.zeroValue128
  t212 := Tryz.underlying145
  a212 := Tryz.isAgg145
  z212 := Tryz.sizeOf145
  v212 := Tryz.zeroValue145
  t213 := Tryz.underlying147
  a213 := Tryz.isAgg147
  z213 := Tryz.sizeOf147
  t232 := Tryz.underlying168
  a232 := Tryz.isAgg168
  z232 := Tryz.sizeOf168
  v232 := Tryz.zeroValue168
  t233 := Tryz.underlying169
  a233 := Tryz.isAgg169
  z233 := Tryz.sizeOf169
  v233 := Tryz.zeroValue169
  g17 := by kernel_rfl
  g18 := by kernel_rfl
  g19 := by kernel_rfl }
end Go.Proofs.YtlbccbikepkfiaaGreatDoor

namespace Go.Proofs.YtlbccbikepkfiaaGreatDoor
open Go.RowKit
set_option linter.unusedVariables false
set_option maxRecDepth 100000


theorem trim_len (t : Bs) : (trimL t).length ≤ t.length := by unfold trimL; split <;> simp
theorem cloneM (s : ByteArray) (w : World) (hl : s.size ≤ 281474976710656) :
    Calls Tryz.prog 66 #[.string s] w fun e w' => e = .returned (.string s) ∧ Below w.heap.size w w' := by
  have H := hide (fun w => Any.stringslite_Clone Tryz.cloneA s w hl)
  go_enter Tryz.func66, Tryz.ntmps66
  go_wp2_with fail
  refine (H.out _).mono ?_
  rintro e w1 ⟨rfl, hb1⟩
  go_wp2_with fail
  go_ret
  exact ⟨rfl, hb1⟩

theorem boxOne {w : World} {B : Nat} {u v : Value} (h : Box w B u v) (u' : Value) : Box (w.setCell ⟨B, 0, none⟩ u') B u' v := by
  obtain ⟨⟨m0, m1⟩, m2, m3⟩ := h
  refine ⟨⟨?_, ?_⟩, ?_, ?_⟩
  · exact cell_set_same m0
  · rw [cell_set_other (by simp)]; exact m1
  · rw [World.frozen?_setCell]; exact m2
  · rw [World.frozen?_setCell]; exact m3
theorem boxSnd {w : World} {B : Nat} {u v : Value} (h : Box w B u v) (v' : Value) : Box (w.setCell ⟨B, 1, none⟩ v') B u v' := by
  obtain ⟨⟨m0, m1⟩, m2, m3⟩ := h
  refine ⟨⟨?_, ?_⟩, ?_, ?_⟩
  · rw [cell_set_other (by simp)]; exact m0
  · exact cell_set_same m1
  · rw [World.frozen?_setCell]; exact m2
  · rw [World.frozen?_setCell]; exact m3
theorem readP_one {t a : Bs} (h : cutC 32 (trimL t) = [a]) : readP t = none := by unfold readP; rw [h]
theorem readP_two {t a n : Bs} (h : cutC 32 (trimL t) = [a, n]) : readP t = none := by unfold readP; rw [h]
theorem readP_more {t a n d : Bs} {r : List Bs} (h : cutC 32 (trimL t) = a :: n :: d :: r) : readP t = ((d :: r).mapM hexW).map fun ds => (n, ds) := by unfold readP; rw [h]


end Go.Proofs.YtlbccbikepkfiaaGreatDoor

namespace Go.Proofs.YtlbccbikepkfiaaGreatDoor
set_option linter.unusedVariables false

def kindsB : Bs := [102, 100, 119, 111]
/-- The program's kind of a word. -/
def kindW (a : Bs) : Option Int := if Lib.index kindsB a < 0 then none else some (Lib.index kindsB a + 1)
/-- The program's number of a word. -/
def numW (n : Bs) : Option Int :=
  match Lib.parseIntB 64 n with
  | .ok v => some v
  | _ => none
/-- The program's digests of the words that are left. -/
def restW (r : List Bs) : Option (List Int) := if joinC 32 r = [45] then some [] else if r = [] then none else (cutC 44 (joinC 32 r)).mapM hexW
/-- What the program's reader reads, ahead of the look whether it is told so. -/
def readE (l : Bs) : Option En :=
  match cutC 32 l with
  | a :: p :: r => (kindW a).bind fun k => if k = 1 then
      (match r with
        | [] => none
        | n :: r' => (numW n).bind fun v => (restW r').map fun cs => ⟨p, 1, v, cs⟩)
      else some ⟨p, k, 0, []⟩
  | _ => none
/-- What ParseEntry answers. -/
def parE (l : Bs) : Option En := (readE l).bind fun e => if entFault e = 0 ∧ textE e = l then some e else none

theorem numW_all : ∀ n : Fin 25, numW (digB (n.val : Int)) = some (n.val : Int) := by decide +kernel
theorem numW_dig {n : Int} (h : 0 ≤ n ∧ n ≤ 24) : numW (digB n) = some n := by
  have := numW_all ⟨n.toNat, by omega⟩
  have e : ((n.toNat : Nat) : Int) = n := by omega
  simpa [e] using this
theorem kindW_all : ∀ k : Fin 4, kindW (kindB ((k.val : Int) + 1)) = some ((k.val : Int) + 1) := by decide +kernel
theorem kindW_kind {k : Int} (h : 1 ≤ k ∧ k ≤ 4) : kindW (kindB k) = some k := by
  have h1 := kindW_all ⟨(k - 1).toNat, by omega⟩
  have e : (((k - 1).toNat : Nat) : Int) + 1 = k := by omega
  simp only [e] at h1
  exact h1
theorem restW_hexes {cs : List Int} (h : ∀ c ∈ cs, 0 ≤ c ∧ c ≤ 4294967295) : restW [hexesB cs] = some cs := by
  unfold restW
  have e : joinC 32 [hexesB cs] = hexesB cs := rfl
  rw [e]
  by_cases hc : cs = []
  · subst hc; rw [if_pos (by rfl)]
  · rw [if_neg (hexesB_one hc), if_neg (by simp), cut_hexes hc]
    exact hexW_all h
theorem readE_of {e : En} (h : FitE e) : readE (textE e) = some e := by
  unfold readE
  rw [cut_textE h]
  unfold wordsE
  obtain ⟨p, k, s, cs⟩ := e
  by_cases hk : k = 1
  · subst hk
    have h1 : kindW [102] = some 1 := kindW_kind (k := 1) (by omega)
    simp only [if_true, h1, Option.bind_some, numW_dig h.size, restW_hexes h.digs, Option.map_some]
  · have hf := h.form.resolve_left hk
    simp only at hf
    obtain ⟨rfl, rfl⟩ := hf
    simp only [if_neg hk, kindW_kind h.kind, Option.bind_some]
theorem parE_iff {l : Bs} {e : En} : parE l = some e ↔ FitE e ∧ textE e = l := by
  constructor
  · intro h
    unfold parE at h
    obtain ⟨e', h1, h2⟩ := Option.bind_eq_some_iff.1 h
    by_cases hc : entFault e' = 0 ∧ textE e' = l
    · rw [if_pos hc] at h2
      cases h2
      exact ⟨entFault_fit.1 hc.1, hc.2⟩
    · rw [if_neg hc] at h2; cases h2
  · rintro ⟨hF, rfl⟩
    unfold parE
    rw [readE_of hF, Option.bind_some, if_pos ⟨entFault_fit.2 hF, rfl⟩]
theorem parE_none {l : Bs} (h : ∀ e, FitE e → textE e ≠ l) : parE l = none := by
  cases hp : parE l with
  | none => rfl
  | some e => exact absurd (parE_iff.1 hp).2 (h e (parE_iff.1 hp).1)
theorem parE_yes {l : Bs} {e : En} (hr : readE l = some e) (hf : entFault e = 0) (ht : textE e = l) : parE l = some e := parE_iff.2 ⟨entFault_fit.1 hf, ht⟩
theorem parE_not {l : Bs} {e : En} (hr : readE l = some e) (hf : entFault e ≠ 0 ∨ textE e ≠ l) : parE l = none := by
  apply parE_none
  rintro e' hF rfl
  rw [readE_of hF] at hr
  cases hr
  exact hf.elim (fun h => h (entFault_fit.2 hF)) (fun h => h rfl)
theorem parE_unread {l : Bs} (hr : readE l = none) : parE l = none := by
  apply parE_none
  rintro e' hF rfl
  rw [readE_of hF] at hr
  cases hr

/-- The model's kind of a word. -/
def kindS (a : Bs) : Int := if a = [102] then 1 else if a = [100] then 2 else if a = [119] then 3 else if a = [111] then 4 else 0
/-- The model's number of a word. -/
def numStep (a : Option Int) (c : UInt8) : Option Int := a.bind fun x => if (c.toNat : Int) < 48 ∨ 57 < (c.toNat : Int) then none else some (x * 10 + ((c.toNat : Int) - 48))
def numS (n : Bs) : Option Int := if n.length < 1 ∨ 2 < n.length then none else n.foldl numStep (some 0)
/-- The model's digests of the last word. -/
def chunkS (t : Bs) : Option (List Int) := if t = [45] then some [] else (cutC 44 t).mapM hexW
/-- What the model reads, ahead of its last look. -/
def readS (l : Bs) : Option En :=
  match cutC 32 l with
  | [a, p, n, t] => if kindS a = 1 then (numS n).bind fun v => (chunkS t).map fun cs => ⟨p, 1, v, cs⟩ else some ⟨p, kindS a, 0, []⟩
  | a :: p :: _ => some ⟨p, kindS a, 0, []⟩
  | _ => none
theorem numS_all : ∀ n : Fin 25, numS (digB (n.val : Int)) = some (n.val : Int) := by decide +kernel
theorem numS_dig {n : Int} (h : 0 ≤ n ∧ n ≤ 24) : numS (digB n) = some n := by
  have := numS_all ⟨n.toNat, by omega⟩
  have e : ((n.toNat : Nat) : Int) = n := by omega
  simpa [e] using this
theorem kindS_all : ∀ k : Fin 4, kindS (kindB ((k.val : Int) + 1)) = ((k.val : Int) + 1) := by decide +kernel
theorem kindS_kind {k : Int} (h : 1 ≤ k ∧ k ≤ 4) : kindS (kindB k) = k := by
  have h1 := kindS_all ⟨(k - 1).toNat, by omega⟩
  have e : (((k - 1).toNat : Nat) : Int) + 1 = k := by omega
  simp only [e] at h1
  exact h1
theorem chunkS_hexes {cs : List Int} (h : ∀ c ∈ cs, 0 ≤ c ∧ c ≤ 4294967295) : chunkS (hexesB cs) = some cs := by
  unfold chunkS
  by_cases hc : cs = []
  · subst hc; rw [if_pos (by rfl)]
  · rw [if_neg (hexesB_one hc), cut_hexes hc]
    exact hexW_all h
theorem readS_of {e : En} (h : FitE e) : readS (textE e) = some e := by
  unfold readS
  rw [cut_textE h]
  unfold wordsE
  obtain ⟨p, k, s, cs⟩ := e
  by_cases hk : k = 1
  · subst hk
    have h1 : kindS [102] = 1 := by decide
    simp only [if_true, h1, Option.bind_some, numS_dig h.size, chunkS_hexes h.digs, Option.map_some]
  · have hf := h.form.resolve_left hk
    simp only at hf
    obtain ⟨rfl, rfl⟩ := hf
    simp only [if_neg hk, kindS_kind h.kind]
theorem parS_yes {l : Bs} {e : En} (hr : readS l = some e) (hf : entFault e = 0) (ht : textE e = l) : parE l = some e := parE_iff.2 ⟨entFault_fit.1 hf, ht⟩
theorem parS_not {l : Bs} {e : En} (hr : readS l = some e) (hf : entFault e ≠ 0 ∨ textE e ≠ l) : parE l = none := by
  apply parE_none
  rintro e' hF rfl
  rw [readS_of hF] at hr
  cases hr
  exact hf.elim (fun h => h (entFault_fit.2 hF)) (fun h => h rfl)
theorem parS_unread {l : Bs} (hr : readS l = none) : parE l = none := by
  apply parE_none
  rintro e' hF rfl
  rw [readS_of hF] at hr
  cases hr
end Go.Proofs.YtlbccbikepkfiaaGreatDoor

namespace Go.Proofs.YtlbccbikepkfiaaGreatDoor
open Go.RowKit Go.Shelf
set_option linter.unusedVariables false
def Tryz.idxA_ren : Go.Shelf.Ren := ⟨fun | 143 => 100 | 219 => 119 | 217 => 128 | 225 => 129 | 224 => 130 | 267 => 131 | 266 => 138 | 314 => 139 | n => n, fun | 9 => 9 | 3 => 3 | 4 => 4 | 5 => 5 | 46 => 149 | 146 => 170 | 51 => 146 | n => n, fun | 1 => 2 | n => n⟩
theorem Tryz.idxA : Go.Proofs.Lays.n143 Tryz.prog Tryz.idxA_ren := {
  mixed := by kernel_rfl
  f143 := Tryz.func100.trans (congrArg some (by kernel_rfl))
  f217 := Tryz.func128.trans (congrArg some (by kernel_rfl))
  f219 := Tryz.func119.trans (congrArg some (by kernel_rfl))
  f224 := Tryz.func130.trans (congrArg some (by kernel_rfl))
  f225 := Tryz.func129.trans (congrArg some (by kernel_rfl))
  f266 := Tryz.func138.trans (congrArg some (by kernel_rfl))
  f267 := Tryz.func131.trans (congrArg some (by kernel_rfl))
  f314 := Tryz.func139.trans (congrArg some (by kernel_rfl))
  t3 := Tryz.underlying3
  a3 := Tryz.isAgg3
  z3 := Tryz.sizeOf3
  v3 := Tryz.zeroValue3
  t4 := Tryz.underlying4
  a4 := Tryz.isAgg4
  z4 := Tryz.sizeOf4
  v4 := Tryz.zeroValue4
  t5 := Tryz.underlying5
  a5 := Tryz.isAgg5
  z5 := Tryz.sizeOf5
  v5 := Tryz.zeroValue5
  t9 := Tryz.underlying9
  a9 := Tryz.isAgg9
  z9 := Tryz.sizeOf9
  v9 := Tryz.zeroValue9
  t46 := Tryz.underlying149
  a46 := Tryz.isAgg149
  z46 := Tryz.sizeOf149
  v46 := Tryz.zeroValue149
  t51 := Tryz.underlying146
  a51 := Tryz.isAgg146
  z51 := Tryz.sizeOf146
  v51 := Tryz.zeroValue146
  t146 := Tryz.underlying170
  a146 := Tryz.isAgg170
  z146 := Tryz.sizeOf170
  v146 := Tryz.zeroValue170
  g1 := by kernel_rfl }
def Tryz.pintA_ren : Go.Shelf.Ren := ⟨fun | 174 => 102 | 247 => 120 | 245 => 121 | 287 => 132 | 279 => 133 | 280 => 134 | 281 => 135 | 282 => 136 | 321 => 140 | 322 => 141 | 316 => 101 | 171 => 143 | 205 => 142 | 243 => 144 | 246 => 59 | 283 => 92 | 284 => 93 | 285 => 94 | 286 => 95 | 129 => 113 | 317 => 112 | 318 => 114 | 319 => 115 | 320 => 116 | 337 => 126 | 338 => 127 | n => n, fun | 9 => 9 | 3 => 3 | 2 => 2 | 75 => 83 | 85 => 134 | 4 => 4 | 167 => 161 | 5 => 5 | 53 => 125 | 175 => 162 | 46 => 149 | 168 => 164 | 37 => 22 | 0 => 0 | 210 => 174 | 21 => 21 | 127 => 131 | 145 => 178 | 143 => 176 | 171 => 124 | 173 => 128 | 212 => 145 | 51 => 146 | 20 => 20 | 213 => 147 | 232 => 168 | 233 => 169 | 80 => 99 | n => n, fun | 15 => 5 | 16 => 6 | 17 => 1 | 18 => 3 | 19 => 4 | n => n⟩
theorem Tryz.pintA : Go.Proofs.LaysC.n174 Tryz.prog Tryz.pintA_ren := {
  mixed := by kernel_rfl
  f129 := Tryz.func113.trans (congrArg some (by kernel_rfl))
  f171 := Tryz.func143.trans (congrArg some (by kernel_rfl))
  f174 := Tryz.func102.trans (congrArg some (by kernel_rfl))
  f205 := Tryz.func142.trans (congrArg some (by kernel_rfl))
  f243 := Tryz.func144.trans (congrArg some (by kernel_rfl))
  f245 := Tryz.func121.trans (congrArg some (by kernel_rfl))
  f246 := Tryz.func59.trans (congrArg some (by kernel_rfl))
  f247 := Tryz.func120.trans (congrArg some (by kernel_rfl))
  f279 := Tryz.func133.trans (congrArg some (by kernel_rfl))
  f280 := Tryz.func134.trans (congrArg some (by kernel_rfl))
  f281 := Tryz.func135.trans (congrArg some (by kernel_rfl))
  f282 := Tryz.func136.trans (congrArg some (by kernel_rfl))
  f283 := Tryz.func92.trans (congrArg some (by kernel_rfl))
  f284 := Tryz.func93.trans (congrArg some (by kernel_rfl))
  f285 := Tryz.func94.trans (congrArg some (by kernel_rfl))
  f286 := Tryz.func95.trans (congrArg some (by kernel_rfl))
  f287 := Tryz.func132.trans (congrArg some (by kernel_rfl))
  f316 := Tryz.func101.trans (congrArg some (by kernel_rfl))
  f317 := Tryz.func112.trans (congrArg some (by kernel_rfl))
  f318 := Tryz.func114.trans (congrArg some (by kernel_rfl))
  f319 := Tryz.func115.trans (congrArg some (by kernel_rfl))
  f320 := Tryz.func116.trans (congrArg some (by kernel_rfl))
  f321 := Tryz.func140.trans (congrArg some (by kernel_rfl))
  f322 := Tryz.func141.trans (congrArg some (by kernel_rfl))
  f337 := Tryz.func126.trans (congrArg some (by kernel_rfl))
  f338 := Tryz.func127.trans (congrArg some (by kernel_rfl))
  t0 := Tryz.underlying0
  a0 := Tryz.isAgg0
  z0 := Tryz.sizeOf0
  v0 := Tryz.zeroValue0
  t2 := Tryz.underlying2
  a2 := Tryz.isAgg2
  z2 := Tryz.sizeOf2
  v2 := Tryz.zeroValue2
  t3 := Tryz.underlying3
  a3 := Tryz.isAgg3
  z3 := Tryz.sizeOf3
  v3 := Tryz.zeroValue3
  t4 := Tryz.underlying4
  a4 := Tryz.isAgg4
  z4 := Tryz.sizeOf4
  v4 := Tryz.zeroValue4
  t5 := Tryz.underlying5
  a5 := Tryz.isAgg5
  z5 := Tryz.sizeOf5
  v5 := Tryz.zeroValue5
  t9 := Tryz.underlying9
  a9 := Tryz.isAgg9
  z9 := Tryz.sizeOf9
  v9 := Tryz.zeroValue9
  t20 := Tryz.underlying20
  a20 := Tryz.isAgg20
  z20 := Tryz.sizeOf20
  v20 := Tryz.zeroValue20
  t21 := Tryz.underlying21
  a21 := Tryz.isAgg21
  z21 := Tryz.sizeOf21
  v21 := Tryz.zeroValue21
  t37 := Tryz.underlying22
  a37 := Tryz.isAgg22
  z37 := Tryz.sizeOf22
  v37 := Tryz.zeroValue22
  t46 := Tryz.underlying149
  a46 := Tryz.isAgg149
  z46 := Tryz.sizeOf149
  v46 := Tryz.zeroValue149
  t51 := Tryz.underlying146
  a51 := Tryz.isAgg146
  z51 := Tryz.sizeOf146
  v51 := Tryz.zeroValue146
  t53 := Tryz.underlying125
  a53 := Tryz.isAgg125
  z53 := Tryz.sizeOf125
  v53 := Tryz.zeroValue125
  t75 := Tryz.underlying83
  a75 := Tryz.isAgg83
  z75 := Tryz.sizeOf83
  v75 := Tryz.zeroValue83
  t85 := Tryz.underlying134
  a85 := Tryz.isAgg134
  z85 := Tryz.sizeOf134
  v85 := Tryz.zeroValue134
  t127 := Tryz.underlying131
  a127 := Tryz.isAgg131
  z127 := Tryz.sizeOf131
  v127 := Tryz.zeroValue131
  t143 := Tryz.underlying176
  a143 := Tryz.isAgg176
  z143 := Tryz.sizeOf176
  v143 := Tryz.zeroValue176
  t145 := Tryz.underlying178
  a145 := Tryz.isAgg178
  z145 := Tryz.sizeOf178
  v145 := Tryz.zeroValue178
  t167 := Tryz.underlying161
  a167 := Tryz.isAgg161
  z167 := Tryz.sizeOf161
  v167 := Tryz.zeroValue161
  t168 := Tryz.underlying164
  a168 := Tryz.isAgg164
  z168 := Tryz.sizeOf164
  v168 := Tryz.zeroValue164
  t171 := Tryz.underlying124
  a171 := Tryz.isAgg124
  z171 := Tryz.sizeOf124
  v171 := Tryz.zeroValue124
  t173 := Tryz.underlying128
  a173 := Tryz.isAgg128
  z173 := Tryz.sizeOf128
  v173 := Tryz.zeroValue128
  t175 := Tryz.underlying162
  a175 := Tryz.isAgg162
  z175 := Tryz.sizeOf162
  v175 := Tryz.zeroValue162
  t210 := Tryz.underlying174
  a210 := Tryz.isAgg174
  z210 := Tryz.sizeOf174
  v210 := Tryz.zeroValue174
  t212 := Tryz.underlying145
  a212 := Tryz.isAgg145
  z212 := Tryz.sizeOf145
  v212 := Tryz.zeroValue145
  t213 := Tryz.underlying147
  a213 := Tryz.isAgg147
  z213 := Tryz.sizeOf147
  t232 := Tryz.underlying168
  a232 := Tryz.isAgg168
  z232 := Tryz.sizeOf168
  v232 := Tryz.zeroValue168
  t233 := Tryz.underlying169
  a233 := Tryz.isAgg169
  z233 := Tryz.sizeOf169
  v233 := Tryz.zeroValue169
  g15 := by kernel_rfl
  g16 := by kernel_rfl
  g17 := by kernel_rfl
  g18 := by kernel_rfl
  g19 := by kernel_rfl
  t80 := Tryz.underlying99
  a80 := Tryz.isAgg99
  z80 := Tryz.sizeOf99
  v80 := Tryz.zeroValue99
  i0 := by kernel_rfl
  i2 := by kernel_rfl
  i3 := by kernel_rfl
  i4 := by kernel_rfl
  i5 := by kernel_rfl
  i9 := by kernel_rfl
  i20 := by kernel_rfl
  i21 := by kernel_rfl
  i37 := by kernel_rfl
  i46 := by kernel_rfl
  i51 := by kernel_rfl
  i53 := by kernel_rfl
  i75 := by kernel_rfl
  i80 := by kernel_rfl
  i85 := by kernel_rfl
  i127 := by kernel_rfl
  i143 := by kernel_rfl
  i145 := by kernel_rfl
  i167 := by kernel_rfl
  i168 := by kernel_rfl
  i171 := by kernel_rfl
  i173 := by kernel_rfl
  i175 := by kernel_rfl
  i210 := by kernel_rfl
  i212 := by kernel_rfl
  i232 := by kernel_rfl
  i233 := by kernel_rfl
  m15 := by kernel_rfl
  m16 := by kernel_rfl
  m17 := by kernel_rfl
  m18 := by kernel_rfl
  m19 := by kernel_rfl
  c0 := by kernel_rfl
  c2 := by kernel_rfl
  c3 := by kernel_rfl
  c4 := by kernel_rfl
  c5 := by kernel_rfl
  c9 := by kernel_rfl
  c20 := by kernel_rfl
  c21 := by kernel_rfl
  c37 := by kernel_rfl
  c46 := by kernel_rfl
  c51 := by kernel_rfl
  c53 := by kernel_rfl
  c75 := by kernel_rfl
  c80 := by kernel_rfl
  c85 := by kernel_rfl
  c127 := by kernel_rfl
  c143 := by kernel_rfl
  c145 := by kernel_rfl
  c167 := by kernel_rfl
  c168 := by kernel_rfl
  c171 := by kernel_rfl
  c173 := by kernel_rfl
  c175 := by kernel_rfl
  c210 := by kernel_rfl
  c212 := by kernel_rfl
  c213 := by kernel_rfl
  c232 := by kernel_rfl
  c233 := by kernel_rfl }
end Go.Proofs.YtlbccbikepkfiaaGreatDoor

namespace Go.Proofs.YtlbccbikepkfiaaGreatDoor
open Go.RowKit
set_option linter.unusedVariables false
set_option maxRecDepth 100000

/-- What the readers ask of the package's variables. -/
structure Gl (w : World) (u : TypeId) (vp : Value) : Prop where
  un : w.cell? ⟨0, 0, none⟩ = some (.iface u vp)
  mx : ∃ m : Int, w.cell? ⟨Tryz.idxA_ren.g 1, 0, none⟩ = some (.int .i64 m)
  sy : ∃ ev : Value, w.cell? ⟨Tryz.pintA_ren.g 15, 0, none⟩ = some ev ∧ (ev = .nilIface ∨ ∃ te pe, ev = .iface te pe)
  rg : ∃ ev : Value, w.cell? ⟨Tryz.pintA_ren.g 16, 0, none⟩ = some ev ∧ (ev = .nilIface ∨ ∃ te pe, ev = .iface te pe)
theorem Gl.below {w w' : World} {u : TypeId} {vp : Value} (h : Gl w u vp) (hb : Below w.heap.size w w') : Gl w' u vp := by
  obtain ⟨h1, ⟨m, h2⟩, ⟨e1, h3, h4⟩, ⟨e2, h5, h6⟩⟩ := h
  exact ⟨(hb.cell (World.block_lt_of_cell? w _ h1)).trans h1, ⟨m, (hb.cell (World.block_lt_of_cell? w _ h2)).trans h2⟩, ⟨e1, (hb.cell (World.block_lt_of_cell? w _ h3)).trans h3, h4⟩, ⟨e2, (hb.cell (World.block_lt_of_cell? w _ h5)).trans h5, h6⟩⟩

theorem index_any (a : Bs) (u : TypeId) (vp : Value) (w : World) (hg : Gl w u vp) : Calls Tryz.prog 100 #[.string ⟨#[102, 100, 119, 111]⟩, .string (str a)] w fun e w' => e = .returned (.int .i64 (Lib.index kindsB a)) ∧ w' = w := by
  obtain ⟨m, hm⟩ := hg.mx
  have := Any.strings_Index Tryz.idxA ⟨#[102, 100, 119, 111]⟩ (str a) m w (by decide) hm
  rw [str_data] at this
  exact this

set_option maxHeartbeats 800000 in
theorem readKind_yes (a : Bs) (k : Int) (u : TypeId) (vp : Value) (w : World) (hg : Gl w u vp) (h : kindW a = some k) : Calls Tryz.prog 65 #[.string (str a)] w fun r w' => r = .returned (.int .i64 k) ∧ w' = w := by
  have HI := hide (index_any a u vp w hg)
  have hi : 0 ≤ Lib.index kindsB a ∧ k = Lib.index kindsB a + 1 := by
    unfold kindW at h
    by_cases hc : Lib.index kindsB a < 0
    · rw [if_pos hc] at h; cases h
    · rw [if_neg hc] at h; cases h; exact ⟨by omega, rfl⟩
  have hu : Lib.index kindsB a ≤ 4 := by
    have := Lib.index_le kindsB a
    simpa [kindsB] using this
  clear h hg
  generalize Lib.index kindsB a = I at *
  obtain ⟨h0, rfl⟩ := hi
  have hwrap : IntKind.i64.wrap (I + 1) = I + 1 := by simp [IntKind.wrap, IntKind.signed, IntKind.bits]; omega
  go_enter Tryz.func65, Tryz.ntmps65
  go_wp2_with fail
  refine HI.out.mono ?_
  rintro e w1 ⟨rfl, rfl⟩
  go_wp2_with fail
  go_ret
  exact ⟨rfl, rfl⟩
set_option maxHeartbeats 800000 in
theorem readKind_no (a : Bs) (u : TypeId) (vp : Value) (w : World) (hg : Gl w u vp) (h : kindW a = none) : Calls Tryz.prog 65 #[.string (str a)] w fun r w' => r = Dies u vp ∧ w' = w := by
  have HI := hide (index_any a u vp w hg)
  have hi : Lib.index kindsB a < 0 := by
    unfold kindW at h
    by_cases hc : Lib.index kindsB a < 0
    · exact hc
    · rw [if_neg hc] at h; cases h
  have hcell := hg.un
  clear h hg
  generalize Lib.index kindsB a = I at *
  go_enter Tryz.func65, Tryz.ntmps65
  go_wp2_with fail
  refine HI.out.mono ?_
  rintro e w1 ⟨rfl, rfl⟩
  go_wp2_with fail
  exact ⟨rfl, rfl, rfl⟩
set_option maxHeartbeats 800000 in
theorem readNumber_yes (n : Bs) (v : Int) (w : World) (hl : n.length ≤ 2097152) (h : numW n = some v) : Calls Tryz.prog 67 #[.string (str n)] w fun r w' => r = .returned (.int .i64 v) ∧ Below w.heap.size w w' := by
  have hp : Lib.parseIntB 64 (str n).data.toList = .ok v := by
    rw [str_data]
    unfold numW at h
    split at h
    · cases h; assumption
    · cases h
  have HP := hide (Any.strconv_ParseInt_10_at64_ok Tryz.pintA (str n) (by rw [str_size]; omega) v hp w)
  clear hp h
  go_enter Tryz.func67, Tryz.ntmps67
  go_wp2_with fail
  refine HP.out.mono ?_
  rintro e w1 ⟨rfl, hw⟩
  have B1 : Hid (Below w.heap.size w w1) := hide (by
    rcases hw with rfl | ⟨t, rfl⟩
    · exact Below.refl _ _
    · exact Lib.bytesWorld_below _ _ _)
  clear hw
  go_wp2_with fail
  go_ret
  exact ⟨rfl, B1.out⟩
set_option maxHeartbeats 800000 in
theorem readNumber_no (n : Bs) (u : TypeId) (vp : Value) (w : World) (hg : Gl w u vp) (hl : n.length ≤ 2097152) (h : numW n = none) : Calls Tryz.prog 67 #[.string (str n)] w fun r w' => r = Dies u vp ∧ Below w.heap.size w w' := by
  have HP : Hid (Calls Tryz.prog 102 #[.string (str n), .int .i64 10, .int .i64 64] w fun e w' => ∃ (x : Int) (N : Nat), e = .returned (.tuple #[.int .i64 x, .iface (Tryz.pintA_ren.t 168) (.pointer (some ⟨N, 0, none⟩))]) ∧ Below w.heap.size w w') := by
    obtain ⟨e1, h3, h4⟩ := hg.sy
    obtain ⟨e2, h5, h6⟩ := hg.rg
    unfold numW at h
    refine hide ?_
    cases hp : Lib.parseIntB 64 n with
    | ok v => rw [hp] at h; cases h
    | «syntax» =>
      refine (Any.strconv_ParseInt_10_at64_syntax Tryz.pintA (str n) (by rw [str_size]; omega) (by rw [str_data]; exact hp) e1 w h3 h4).mono ?_
      rintro e w1 ⟨N, rfl, -, -, hb⟩
      exact ⟨_, N, rfl, hb⟩
    | range =>
      refine (Any.strconv_ParseInt_10_at64_range Tryz.pintA (str n) (by rw [str_size]; omega) (by rw [str_data]; exact hp) e2 w h5 h6).mono ?_
      rintro e w1 ⟨N, rfl, -, -, hb⟩
      exact ⟨_, N, rfl, hb⟩
  have HG := hide (fun w1 (hb : Below w.heap.size w w1) => (hg.below hb).un)
  clear h hg
  go_enter Tryz.func67, Tryz.ntmps67
  go_wp2_with fail
  refine HP.out.mono ?_
  rintro e w1 ⟨x, N, rfl, hb⟩
  have hcell := HG.out _ hb
  have B1 := hide hb
  clear hb
  go_wp2_with fail
  exact ⟨rfl, rfl, B1.out⟩
end Go.Proofs.YtlbccbikepkfiaaGreatDoor

namespace Go.Proofs.YtlbccbikepkfiaaGreatDoor
open Go.RowKit
set_option linter.unusedVariables false
set_option maxRecDepth 100000

/-- What stands at the label: done digests in a row of its own, words that are left. -/
structure AtL (w W : World) (n : Bs) (r0 ws : List Bs) (done : List Int) (av : Option Addr) (cv : Nat) : Prop where
  x : Box W w.heap.size (.string ⟨#[]⟩) (.slice none 0 0)
  m : Box W (w.heap.size + 1) (.string (str n)) (.slice av done.length cv)
  c : Box W (w.heap.size + 1 + 1) (.string (str (joinC 32 ws))) (.bool true)
  own : W.ownsRow (w.heap.size + 3) 2 1 (.slice av done.length cv) done.length (done.map (Value.int .i64))
  below : Below w.heap.size w W
  size : w.heap.size + 3 ≤ W.heap.size
  cut : cutC 32 (joinC 32 ws) = ws
  len : (joinC 32 ws).length ≤ 2097152
  some : ws ≠ []
  num : done.length + ws.length ≤ 2097153
  eq : r0.mapM hexW = (ws.mapM hexW).map (done ++ ·)
theorem news_int (w : World) (d : Int) (t : TypeId) : ∀ j u, [Value.int .i64 d][j]? = some u → (w.alloc (.cells #[.int .i64 d] t)).cell? ((⟨w.heap.size, 0, none⟩ : Addr).add j) = some u := by
  intro j u hj
  rw [addr_add]
  match j, hj with
  | 0, hj => simp at hj; subst hj; simp
def leftM (C : Nat) (w : World) : Nat := match w.cell? ⟨C, 0, none⟩ with | some (.string s) => s.size | _ => 0

end Go.Proofs.YtlbccbikepkfiaaGreatDoor

namespace Go.Proofs.YtlbccbikepkfiaaGreatDoor
open Go.RowKit
set_option linter.unusedVariables false

/-- The first m of what is above. -/
def aboveK (ns : List Bs) (m : Nat) : List Bs := (List.range m).map fun k => joinB (ns.take (k + 1))
theorem aboveK_zero (ns : List Bs) : aboveK ns 0 = [] := rfl
theorem aboveK_succ (ns : List Bs) (m : Nat) : aboveK ns (m + 1) = aboveK ns m ++ [joinB (ns.take (m + 1))] := by simp [aboveK, List.range_succ]
theorem aboveK_length (ns : List Bs) (m : Nat) : (aboveK ns m).length = m := by simp [aboveK]
theorem join_cut_len (s : ByteArray) : (joinB (cutB s.data.toList.tail)).length ≤ s.size + 1 := by
  rw [join_cut, List.length_cons, List.length_tail, ← Lib.size_eq]; omega

set_option maxRecDepth 100000 in
set_option maxHeartbeats 1600000 in
theorem l3Above_any (s : ByteArray) (w : World) (h1 : 1 ≤ s.size) (hs : s.size ≤ 2097152) :
    Calls Tryz.prog 42 #[.string s] w fun e w' => ∃ v, e = .returned v ∧ OwnS w.heap.size w' v (aboveN (cutB s.data.toList.tail)) ∧ Below w.heap.size w w' := by
  obtain ⟨i1, ki, kz0, kz1, kz2⟩ := info_parts infoS
  have h1' : (1 : Int) ≤ (s.size : Int) := by omega
  have hel := extract_le s 1 s.size
  have HT := hide (tail_data s)
  have hcl := cutB_length s.data.toList.tail
  have hel2 : s.data.toList.tail.length ≤ s.size := by rw [List.length_tail, ← Lib.size_eq]; omega
  have hjl := join_cut_len s
  have hpos := List.length_pos_iff.2 (cutB_ne s.data.toList.tail)
  generalize hns : cutB s.data.toList.tail = ns at *
  have HN := hide hns
  clear hns
  go_enter Tryz.func42, Tryz.ntmps42
  go_wp2_with fail
  refine (l3Cut_any _ _ (by omega)).mono ?_
  rintro e w1 ⟨v, rfl, hO, hb1⟩
  rw [HT.out, HN.out] at hO
  obtain ⟨na, nc, rfl⟩ := hO.shape
  have hnc := hO.cap rfl
  have HR := hide hO.reads
  have HB := hide hb1
  have HPB := hide (fun b (hb : na.map Addr.block = some b) => hO.lt b (by cases na with | none => simp at hb | some x => simpa [Value.ownBlock] using hb))
  have n1 := hb1.size
  clear hO hb1
  go_wp2_with fail
  go_loopw [4, 5] (fun v i wr => ∃ m : Nat, m + 1 ≤ ns.length ∧ i = .int .i64 (m + 1) ∧ Hid (OwnS w1.heap.size wr v (aboveK ns m)) ∧ Hid (ReadsS wr na ns) ∧ Hid (Below w.heap.size w wr) ∧ w1.heap.size ≤ wr.heap.size) (fun _ i _ => ns.length - (intOf i).toNat)
  case atStart => exact ⟨0, by omega, rfl, hide (World.ownsRow_made (base := w1.heap.size) (e := 9) (size := 1) w1 #[] 0 (Nat.le_refl _) (Nat.zero_le _) rfl), hide (HR.out.below (below_alloc _ _)), hide (below_next HB.out (below_alloc _ _)), by simp⟩
  case round =>
    obtain ⟨m, hm, rfl, HO, HRr, HBr, hszr⟩ := hrel
    obtain ⟨va, vc, rfl⟩ := HO.out.shape
    rw [aboveK_length] at *
    by_cases hlt : m + 1 < ns.length
    · have hm1 : m + 1 ≤ maxLen := by unfold maxLen; omega
      have hm2 : (m + 1) * 16 ≤ 140737488355328 := by omega
      have hjt := join_take_le ns (m + 1)
      have hlt2 : (m : Int) + 1 < (ns.length : Int) := by omega
      have hcp : (m : Int) + 1 ≤ (nc : Int) := by omega
      have HO' := hide (show wr.ownsRow w1.heap.size 9 1 (.slice va m vc) m ((aboveK ns m).map vS) by have := HO.out; unfold OwnS at this; rwa [aboveK_length] at this)
      go_wp2_with (first | (go_at_call 74; refine (l3Join_any _ _ (ns.take (m + 1)) _ (HRr.out.take (m + 1)) (by simp; omega) (by omega) _ (by simp; omega)).mono ?_; rintro e w2 ⟨rfl, rfl⟩) | (at_builtin; refine wpList_append_one rfl (.tmp 16) (.tmp 21) 54 rfl w1.heap.size 9 i1 (.string ⟨#[]⟩) 1 16 Tryz.underlying54 ki kz0 kz1 kz2 rfl (by decide) _ _ _ rfl HO'.out rfl rfl (by intro u hu; simp at hu; subst hu; rfl) hm1 hm2 hszr ?_; intro v' w3 hown2 hkept; have O2 := hide hown2; have K2 := hide hkept; clear hown2 hkept))
      go_roundw
      case rel => exact ⟨m + 1, by omega, by go_num, hide (by rw [aboveK_succ]; exact OwnS.snoc (ps := aboveK ns m) (by rw [aboveK_length]; exact O2.out) rfl), hide (HRr.out.kept K2.out (fun _ x hx hS => by have h1 := (HPB.out x.block (by rw [hx]; rfl)).2; have h2 := (HO'.out.lt _ hS).1; omega)), hide (HBr.out.trans (K2.out.below (by omega) (fun b hb hS => by have := (HO'.out.lt _ hS).1; omega))), by have := K2.out.size; omega⟩
      case measure => simp [intOf]; omega
    · have hlt2 : ¬ (m : Int) + 1 < (ns.length : Int) := by omega
      have HE := hide (show aboveN ns = aboveK ns m by unfold aboveN aboveK; rw [show ns.length - 1 = m by omega])
      go_wp2_with fail
      go_ret
      exact ⟨_, rfl, by rw [HE.out]; exact HO.out.mono n1, HBr.out⟩

theorem faultP_pos {s : ByteArray} (h : faultP s.data.toList = 0) : 1 ≤ s.size := by
  obtain ⟨ns, _, _, _, e⟩ := faultP_zero h
  have := congrArg List.length e
  rw [← Lib.size_eq] at this
  simp at this
  omega
theorem above_bad {p : Bs} (h : faultP p ≠ 0) : above p = [] := by simp [above, h]
theorem above_good {p : Bs} (h : faultP p = 0) : above p = aboveN (cutB p.tail) := by simp [above, h]
theorem above_len (p : Bs) : (above p).length ≤ 2 := by
  by_cases h : faultP p = 0
  · obtain ⟨ns, hN, _, hc, _⟩ := faultP_zero h
    rw [above_good h, aboveN_length, hc]
    have := hN.2.2.2
    omega
  · rw [above_bad h]; simp



/-- What ParentOf and LastOf answer. -/
def parC (p : Bs) : Int := if faultP p = 0 then (if above p = [] then 4 else 0) else faultP p
def parT (p : Bs) : Bs := (above p).getLastD []
def lastT (p : Bs) : Bs := if faultP p = 0 then lastN (cutB p.tail) else []

theorem getLast_at {l : List Bs} (h : l ≠ []) : l[l.length - 1]? = some (l.getLastD []) := by
  rw [List.getLastD_eq_getLast?, List.getLast?_eq_getElem?]
  have : l.length - 1 < l.length := by have := List.length_pos_iff.2 h; omega
  simp [this]
theorem aboveN_getLast_ne {ns : List Bs} (h : aboveN ns ≠ []) : (aboveN ns).getLastD [] ≠ [] := by
  have hm : (aboveN ns).getLastD [] ∈ aboveN ns := List.mem_of_getElem? (getLast_at h)
  obtain ⟨k, h0, hk, e⟩ := mem_aboveN.1 hm
  rw [e]
  cases ns with
  | nil => simp at hk
  | cons n ns =>
    cases k with
    | zero => omega
    | succ k => simp [joinB]

set_option maxRecDepth 100000 in
set_option maxHeartbeats 800000 in
theorem l3Parent_any (s : ByteArray) (w : World) (h1 : 1 ≤ s.size) (hs : s.size ≤ 2097152) :
    Calls Tryz.prog 85 #[.string s] w fun e w' => e = .returned (.string (str ((aboveN (cutB s.data.toList.tail)).getLastD []))) ∧ Below w.heap.size w w' := by
  have hlen : (aboveN (cutB s.data.toList.tail)).length ≤ 4194304 := by
    have hlen := aboveN_length (cutB s.data.toList.tail)
    have hcl := cutB_length s.data.toList.tail
    have hel2 : s.data.toList.tail.length ≤ s.size := by rw [List.length_tail, ← Lib.size_eq]; omega
    omega
  obtain ⟨ab, hab⟩ : ∃ ab, ab = aboveN (cutB s.data.toList.tail) := ⟨_, rfl⟩
  rw [← hab] at hlen ⊢
  have HAB := hide hab
  clear hab
  go_enter Tryz.func85, Tryz.ntmps85
  go_wp2_with fail
  refine (l3Above_any _ _ h1 hs).mono ?_
  rintro e w1 ⟨v, rfl, hO, hb1⟩
  rw [← HAB.out] at hO
  obtain ⟨va, vc, rfl⟩ := hO.shape
  have HB := hide hb1
  clear hb1
  by_cases h0 : ab = []
  · subst h0
    go_wp2_with fail
    go_ret
    exact ⟨rfl, HB.out⟩
  · have hp := List.length_pos_iff.2 h0
    obtain ⟨b, off, p, rfl, hb, hpe, hck⟩ := hO.reads.at (k := ab.length - 1) (by omega)
    have HP := hide (Option.some.inj (hpe.symm.trans (getLast_at h0)))
    clear hpe hO
    have hz : ((ab.length : Int) == 0) = false := by simp; omega
    have hp' : (1 : Int) ≤ (ab.length : Int) := by omega
    have hp2 : (ab.length : Int) ≤ 4194304 := by omega
    go_wp2_with fail
    go_ret
    exact ⟨ret_str (by rw [HP.out]), HB.out⟩

theorem par_bad {p : Bs} (h : faultP p ≠ 0) : parC p = faultP p ∧ parT p = [] := by simp [parC, parT, h, above_bad h]
theorem par_none {p : Bs} (h : faultP p = 0) (ha : aboveN (cutB p.tail) = []) : parC p = 4 ∧ parT p = [] := by
  have e := above_good h
  rw [ha] at e
  simp [parC, parT, h, e]
theorem par_good {p : Bs} (h : faultP p = 0) (ha : aboveN (cutB p.tail) ≠ []) : parC p = 0 ∧ parT p = (aboveN (cutB p.tail)).getLastD [] := by
  have e := above_good h
  exact ⟨by simp [parC, h, e, ha], by rw [parT, e]⟩



theorem last_bad {p : Bs} (h : faultP p ≠ 0) : lastT p = [] := by simp [lastT, h]
theorem last_good {p : Bs} (h : faultP p = 0) : lastT p = lastN (cutB p.tail) := by simp [lastT, h]


theorem belowB_short {s t : ByteArray} (h : ¬ t.size + 1 < s.size) : belowB s.data.toList t.data.toList = false := by
  simp [belowB, h]
theorem belowB_part {s t : ByteArray} (h : t.size + 1 < s.size) (h2 : ((s.extract 0 t.size).toList == t.toList) = false) : belowB s.data.toList t.data.toList = false := by
  rw [Lib.extract_toList, ByteArray.toList_eq, List.drop_zero, Nat.sub_zero] at h2
  simp only [belowB, ← Lib.size_eq, h2, Bool.and_false, Bool.false_and]
theorem belowB_whole {s t : ByteArray} (h : t.size + 1 < s.size) (h2 : ((s.extract 0 t.size).toList == t.toList) = true) : belowB s.data.toList t.data.toList = ((s[t.size].toNat : Int) == 47) := by
  rw [Lib.extract_toList, ByteArray.toList_eq, List.drop_zero, Nat.sub_zero] at h2
  have hl : t.size < s.data.toList.length := by rw [← Lib.size_eq]; omega
  have e : (s.data.toList.drop t.size).head? = some s[t.size] := by
    rw [List.head?_drop, List.getElem?_eq_getElem hl]; rfl
  simp only [belowB, ← Lib.size_eq, h2, h, e, decide_true, Bool.true_and]
  rw [Bool.eq_iff_iff]
  simp only [beq_iff_eq, Option.some.injEq]
  constructor
  · intro h; rw [h]; rfl
  · intro h; apply UInt8.toNat_inj.1; show _ = 47; omega

set_option maxRecDepth 100000 in
set_option maxHeartbeats 800000 in
theorem l3Below_any (s t : ByteArray) (w : World) (hs : s.size ≤ 2097152) (ht : t.size ≤ 2097152) :
    Calls Tryz.prog 75 #[.string s, .string t] w fun e w' => e = .returned (.bool (belowB s.data.toList t.data.toList)) ∧ w' = w := by
  by_cases h : t.size + 1 < s.size
  · have h' : (t.size : Int) + 1 < (s.size : Int) := by omega
    have h3 : (t.size : Int) ≤ (s.size : Int) := by omega
    have h4 : t.size < s.size := by omega
    cases h2 : ((s.extract 0 t.size).toList == t.toList)
    · have HE := hide (belowB_part h h2)
      go_enter Tryz.func75, Tryz.ntmps75
      go_wp2_with fail
      go_ret
      exact ⟨ret_bool HE.out.symm, rfl⟩
    · have HE := hide (belowB_whole h h2)
      go_enter Tryz.func75, Tryz.ntmps75
      go_wp2_with fail
      go_ret
      exact ⟨ret_bool HE.out.symm, rfl⟩
  · have h' : ¬ (t.size : Int) + 1 < (s.size : Int) := by omega
    have HE := hide (belowB_short h)
    go_enter Tryz.func75, Tryz.ntmps75
    go_wp2_with fail
    go_ret
    exact ⟨ret_bool HE.out.symm, rfl⟩

/-- What IsBelow answers. -/
def isBelow (p t : Bs) : Bool := decide (t ∈ above p)
theorem isBelow_bad {p t : Bs} (h : faultP p ≠ 0) : isBelow p t = false := by simp [isBelow, above_bad h]
theorem isBelow_good {p t : Bs} (h : faultP p = 0) : isBelow p t = decide (faultP t = 0 ∧ belowB p t = true) := by
  simp only [isBelow, above_good h, above_iff h]


end Go.Proofs.YtlbccbikepkfiaaGreatDoor

namespace Go.Proofs.YtlbccbikepkfiaaGreatDoor
open Go.RowKit
set_option linter.unusedVariables false

/-- The slice at address a reads as the entries es. -/
def RdE (w : World) (a : Option Addr) (es : List En) : Prop :=
  es ≠ [] → ∃ (b off : Nat) (A : Nat → Option Addr) (C : Nat → Nat), a = some ⟨b, off, none⟩ ∧ b < w.heap.size ∧ ∀ i e, es[i]? = some e →
    w.cell? ⟨b, off + i * 4, none⟩ = some (.string (str e.path)) ∧ w.cell? ⟨b, off + i * 4 + 1, none⟩ = some (.int .i64 e.kind) ∧ w.cell? ⟨b, off + i * 4 + 2, none⟩ = some (.int .i64 e.size) ∧
    w.cell? ⟨b, off + i * 4 + 3, none⟩ = some (.slice (A i) e.chunks.length (C i)) ∧ Reads .i64 w (A i) e.chunks
theorem RdE.kept {S : Nat → Prop} {w w' : World} {a : Option Addr} {es : List En} (h : RdE w a es) (hk : Below w.heap.size w w') : RdE w' a es := by
  intro hz
  obtain ⟨b, off, A, C, e, hb, hc⟩ := h hz
  refine ⟨b, off, A, C, e, Nat.lt_of_lt_of_le hb hk.size, fun i x hx => ?_⟩
  obtain ⟨c0, c1, c2, c3, r⟩ := hc i x hx
  exact ⟨(hk.cell (p := ⟨b, off + i * 4, none⟩) hb).trans c0, (hk.cell (p := ⟨b, off + i * 4 + 1, none⟩) hb).trans c1, (hk.cell (p := ⟨b, off + i * 4 + 2, none⟩) hb).trans c2, (hk.cell (p := ⟨b, off + i * 4 + 3, none⟩) hb).trans c3, r.below hk⟩
theorem RdE.below {w w' : World} {a : Option Addr} {es : List En} (h : RdE w a es) (hk : Below w.heap.size w w') : RdE w' a es := h.kept (S := fun _ => False) hk
theorem RdE.at {w : World} {a : Option Addr} {es : List En} (h : RdE w a es) {k : Nat} (hk : k < es.length) :
    ∃ b off e x c, a = some ⟨b, off, none⟩ ∧ b < w.heap.size ∧ es[k]? = some e ∧ w.cell? ⟨b, off + k * 4, none⟩ = some (.string (str e.path)) ∧ w.cell? ⟨b, off + k * 4 + 1, none⟩ = some (.int .i64 e.kind) ∧ w.cell? ⟨b, off + k * 4 + 2, none⟩ = some (.int .i64 e.size) ∧
      w.cell? ⟨b, off + k * 4 + 3, none⟩ = some (.slice x e.chunks.length c) ∧ Reads .i64 w x e.chunks := by
  obtain ⟨b, off, A, C, e, hb, hc⟩ := h (by intro e; simp [e] at hk)
  have hx : es[k]? = some es[k] := List.getElem?_eq_getElem hk
  obtain ⟨c0, c1, c2, c3, r⟩ := hc k _ hx
  exact ⟨b, off, es[k], A k, C k, e, hb, hx, c0, c1, c2, c3, r⟩
/-- Entries that the reckoning may go through. -/
def SmallE (es : List En) : Prop := ∀ e ∈ es, e.path.length ≤ 1048576 ∧ e.chunks.length ≤ 1048576

theorem l1In_yes (n a b : Int) (w : World) (h0 : a ≤ n) (h1 : n ≤ b) :
    Calls Tryz.prog 82 #[.int .i64 n, .int .i64 a, .int .i64 b] w fun e w' => e = .returned (.bool true) ∧ w' = w := by
  go_enter Tryz.func82, Tryz.ntmps82
  go_wp2
  go_ret
  exact ⟨rfl, rfl⟩
theorem l1In_no (n a b : Int) (w : World) (h : n < a ∨ b < n) :
    Calls Tryz.prog 82 #[.int .i64 n, .int .i64 a, .int .i64 b] w fun e w' => e = .returned (.bool false) ∧ w' = w := by
  by_cases h0 : a ≤ n
  · have h1 : ¬ n ≤ b := by omega
    go_enter Tryz.func82, Tryz.ntmps82
    go_wp2
    go_ret
    exact ⟨rfl, rfl⟩
  · go_enter Tryz.func82, Tryz.ntmps82
    go_wp2
    go_ret
    exact ⟨rfl, rfl⟩

theorem l1Digest_any (n : Int) (w : World) : Calls Tryz.prog 84 #[.int .i64 n] w fun e w' => e = .returned (.bool (isDig n)) ∧ w' = w := by
  by_cases h : 0 ≤ n ∧ n ≤ 4294967295
  · have e : isDig n = true := decide_eq_true h
    rw [e]
    obtain ⟨h0, h1⟩ := h
    go_enter Tryz.func84, Tryz.ntmps84
    go_wp2_with (go_at_call 82; refine (l1In_yes _ _ _ _ h0 h1).mono ?_; rintro e w' ⟨rfl, rfl⟩)
    go_ret
    exact ⟨rfl, rfl⟩
  · have e : isDig n = false := decide_eq_false h
    rw [e]
    go_enter Tryz.func84, Tryz.ntmps84
    go_wp2_with (go_at_call 82; refine (l1In_no _ _ _ _ (by omega)).mono ?_; rintro e w' ⟨rfl, rfl⟩)
    go_ret
    exact ⟨rfl, rfl⟩

end Go.Proofs.YtlbccbikepkfiaaGreatDoor

namespace Go.Proofs.YtlbccbikepkfiaaGreatDoor
open Go.RowKit
set_option linter.unusedVariables false

/-- Four cells of a block, that may be written. -/
def Four (w : World) (b : Nat) (u0 u1 u2 u3 : Value) : Prop := w.cell? ⟨b, 0, none⟩ = some u0 ∧ w.cell? ⟨b, 1, none⟩ = some u1 ∧ w.cell? ⟨b, 2, none⟩ = some u2 ∧ w.cell? ⟨b, 3, none⟩ = some u3
theorem Four.new (w : World) (u0 u1 u2 u3 : Value) (t : TypeId) : Four (w.alloc (.cells #[u0, u1, u2, u3] t)) w.heap.size u0 u1 u2 u3 := ⟨by simp, by simp, by simp, by simp⟩
theorem Four.lt {w : World} {b : Nat} {u0 u1 u2 u3 : Value} (h : Four w b u0 u1 u2 u3) : b < w.heap.size := World.block_lt_of_cell? w ⟨b, 0, none⟩ h.1
theorem Four.below {w w' : World} {b : Nat} {u0 u1 u2 u3 : Value} (h : Four w b u0 u1 u2 u3) (hk : Below w.heap.size w w') : Four w' b u0 u1 u2 u3 :=
  ⟨(hk.cell (p := ⟨b, 0, none⟩) h.lt).trans h.1, (hk.cell (p := ⟨b, 1, none⟩) h.lt).trans h.2.1, (hk.cell (p := ⟨b, 2, none⟩) h.lt).trans h.2.2.1, (hk.cell (p := ⟨b, 3, none⟩) h.lt).trans h.2.2.2⟩

theorem l4For_any (n : Int) (w : World) (h0 : 0 ≤ n) (h1 : n ≤ 24) : Calls Tryz.prog 83 #[.int .i64 n] w fun e w' => e = .returned (.int .i64 ((n + 7) / 8)) ∧ w' = w := by
  have e : (n + 7) / 8 = (n + 8 - 1).tdiv 8 := by rw [Int.tdiv_eq_ediv_of_nonneg (by omega)]; congr 1; omega
  rw [e]
  go_enter Tryz.func83, Tryz.ntmps83
  go_wp2
  go_ret
  exact ⟨rfl, rfl⟩

set_option maxRecDepth 100000 in
set_option maxHeartbeats 1600000 in
theorem specEntryFault_any (e : En) (x : Option Addr) (c n : Nat) (w : World) (h : Reads .i64 w x e.chunks) (hn : n = e.chunks.length) (hp : e.path.length ≤ 1048576) (hc : e.chunks.length ≤ 1048576) :
    Calls Tryz.prog 52 #[.agg #[.string (str e.path), .int .i64 e.kind, .int .i64 e.size, .slice x n c]] w fun r w' => r = .returned (.int .i64 (entFault e)) ∧ Below w.heap.size w w' := by
  subst hn
  have HR := hide h
  clear h
  have HN := hide (below_alloc w (.cells #[.string (str e.path), .int .i64 e.kind, .int .i64 e.size, .slice x e.chunks.length c] 39))
  have HB := hide (Four.new w (.string (str e.path)) (.int .i64 e.kind) (.int .i64 e.size) (.slice x e.chunks.length c) 39)
  by_cases hf : faultP e.path = 0
  · go_enter Tryz.func52, Tryz.ntmps52
    go_wp2_with fail
    refine (l3Fault_any _ _ (by rw [str_size]; omega)).mono ?_
    rintro r w1 ⟨rfl, hb1⟩
    rw [str_data, hf]
    have HB1 := hide (below_next HN.out hb1)
    have HR1 := hide (HR.out.below HB1.out)
    have hB := HB.out.below hb1
    clear HB HR HN hb1
    obtain ⟨c0, c1, c2, c3⟩ := hB
    generalize w.heap.size = bk at c0 c1 c2 c3 ⊢
    by_cases hk : 1 ≤ e.kind ∧ e.kind ≤ 4
    · by_cases hk1 : e.kind = 1
      · have hfm : formE e = true := decide_eq_true ⟨hk, Or.inl hk1⟩
        have hkn : (e.kind != 1) = false := by simp [hk1]
        have HK := hide hk1
        clear hk1
        have HI := hide (l1In_yes e.kind 1 4 w1 hk.1 hk.2)
        by_cases hz : 0 ≤ e.size ∧ e.size ≤ 24
        · have HZ := hide (l1In_yes e.size 0 24 w1 hz.1 hz.2)
          have HFo := hide (fun u => l4For_any e.size u hz.1 hz.2)
          by_cases hm : (e.chunks.length : Int) = (e.size + 7) / 8
          · have HE := hide (entFault_digs hf hfm (decide_eq_true hz) (decide_eq_true hm))
            have hmn : ((e.chunks.length : Int) != (e.size + 7) / 8) = false := by simp; exact hm
            clear hfm hf hm
            go_wp2_with fail
            refine HI.out.mono ?_
            rintro r w' ⟨rfl, rfl⟩
            go_wp2_with fail
            refine HZ.out.mono ?_
            rintro r w' ⟨rfl, rfl⟩
            go_wp2_with fail
            go_region_held3 (fun w' => w'.cell? ⟨bk, 2, none⟩ = some (.int .i64 e.size) ∧ w'.cell? ⟨bk, 3, none⟩ = some (.slice x e.chunks.length c)) (first | trivial | go_keep)
              ((first
                | (go_at_call 83; refine (HFo.out _).mono ?_; rintro r w' ⟨rfl, rfl⟩)))
            go_wp2_with fail
            clear hmn
            have d3 : w'.drew.cell? ⟨bk, 3, none⟩ = some (.slice x e.chunks.length c) := c3
            have HR2 := hide (HR1.out.below (Below.refl w'.heap.size w').drew)
            have HB2 := hide HB1.out.drew
            clear c0 c1 c2 c3 HR1 HB1 HI HZ
            generalize w'.drew = W at *
            go_loop [4] (fun i => ∃ k : Nat, k ≤ e.chunks.length ∧ i = .int .i64 k ∧ Hid ((e.chunks.take k).all isDig = true)) (fun i => e.chunks.length - (intOf i).toNat)
            case atStart => exact ⟨0, Nat.zero_le _, rfl, hide (by simp)⟩
            case round =>
              obtain ⟨k, hk, rfl, HA⟩ := hrel
              by_cases hlt : k < e.chunks.length
              · obtain ⟨b, off, rfl, hb1, hcc⟩ := HR2.out (by intro e; simp [e] at hlt)
                have hc1 := hcc k hlt
                have hzk : e.chunks[k]? = some (e.chunks.getD k 0) := by rw [List.getD_eq_getElem?_getD, List.getElem?_eq_getElem hlt]; rfl
                generalize e.chunks.getD k 0 = z at hc1 hzk
                have HZ := hide hzk
                clear hcc hzk
                cases hd : isDig z
                · have HX := hide (show e.chunks.all isDig = false from by rw [List.all_eq_false]; exact ⟨z, List.mem_of_getElem? HZ.out, by simp [hd]⟩)
                  have HD := hide hd
                  clear hd
                  go_wp2_with fail
                  refine (l1Digest_any _ _).mono ?_
                  rintro r w'' ⟨rfl, rfl⟩
                  rw [HD.out]
                  go_wp2_with fail
                  go_ret
                  exact ⟨ret_int (by rw [HE.out, HX.out]; rfl), HB2.out⟩
                · have HX := hide (show (e.chunks.take (k + 1)).all isDig = true from by rw [take_snoc_at HZ.out]; simp [HA.out, hd])
                  have HD := hide hd
                  clear hd
                  go_wp2_with fail
                  refine (l1Digest_any _ _).mono ?_
                  rintro r w'' ⟨rfl, rfl⟩
                  rw [HD.out]
                  go_wp2_with fail
                  go_round
                  case rel => exact ⟨k + 1, by omega, by go_num, HX⟩
                  case measure => simp [intOf]; omega
              · have HX := hide (show e.chunks.all isDig = true from by have := HA.out; rwa [List.take_of_length_le (by omega)] at this)
                go_wp2_with fail
                go_ret
                exact ⟨ret_int (by rw [HE.out, HX.out]; rfl), HB2.out⟩
          · have HE := hide (entFault_many hf hfm (decide_eq_true hz) (decide_eq_false hm))
            have hmn : ((e.chunks.length : Int) != (e.size + 7) / 8) = true := by simp; exact hm
            clear hfm hf hm
            go_wp2_with fail
            refine HI.out.mono ?_
            rintro r w' ⟨rfl, rfl⟩
            go_wp2_with fail
            refine HZ.out.mono ?_
            rintro r w' ⟨rfl, rfl⟩
            go_wp2_with fail
            go_region_held3 (fun w' => w'.cell? ⟨bk, 2, none⟩ = some (.int .i64 e.size) ∧ w'.cell? ⟨bk, 3, none⟩ = some (.slice x e.chunks.length c)) (first | trivial | go_keep)
              ((first
                | (go_at_call 83; refine (HFo.out _).mono ?_; rintro r w' ⟨rfl, rfl⟩)))
            go_wp2_with fail
            go_ret
            exact ⟨ret_int HE.out.symm, HB1.out.drew⟩
        · have HZ := hide (l1In_no e.size 0 24 w1 (by omega))
          have HE := hide (entFault_size hf hfm (decide_eq_false hz))
          clear hfm hf
          go_wp2_with fail
          refine HI.out.mono ?_
          rintro r w' ⟨rfl, rfl⟩
          go_wp2_with fail
          refine HZ.out.mono ?_
          rintro r w' ⟨rfl, rfl⟩
          go_wp2_with fail
          go_ret
          exact ⟨ret_int HE.out.symm, HB1.out⟩
      · have hkn : (e.kind != 1) = true := by simp; exact hk1
        have HI := hide (l1In_yes e.kind 1 4 w1 hk.1 hk.2)
        by_cases hz : e.size = 0
        · have hzn : (e.size != 0) = false := by simp; exact hz
          by_cases hl : e.chunks.length = 0
          · have HE := hide (show entFault e = 0 from by
              have e0 : e.chunks = [] := List.length_eq_zero_iff.1 hl
              rw [entFault_digs hf (decide_eq_true ⟨hk, Or.inr ⟨hz, hl⟩⟩) (decide_eq_true (by omega)) (decide_eq_true (by rw [hl, hz]; rfl)), e0]; rfl)
            have hl0 : ¬ (0 : Int) < (e.chunks.length : Int) := by omega
            have HZ := hide (l1In_yes e.size 0 24 w1 (by omega) (by omega))
            have HFo := hide (fun u => l4For_any e.size u (by omega) (by omega))
            have hmn : ((e.chunks.length : Int) != (e.size + 7) / 8) = false := by rw [hl, hz]; rfl
            clear hf hl hz hk1
            go_wp2_with fail
            refine HI.out.mono ?_
            rintro r w' ⟨rfl, rfl⟩
            go_wp2_with fail
            refine HZ.out.mono ?_
            rintro r w' ⟨rfl, rfl⟩
            go_wp2_with fail
            go_region_held3 (fun w' => w'.cell? ⟨bk, 2, none⟩ = some (.int .i64 e.size) ∧ w'.cell? ⟨bk, 3, none⟩ = some (.slice x e.chunks.length c)) (first | trivial | go_keep)
              ((first
                | (go_at_call 83; refine (HFo.out _).mono ?_; rintro r w' ⟨rfl, rfl⟩)))
            go_wp2_with fail
            have d3 : w'.drew.cell? ⟨bk, 3, none⟩ = some (.slice x e.chunks.length c) := c3
            have HB2 := hide HB1.out.drew
            clear c0 c1 c2 c3 HR1 HB1 HI HZ hmn
            generalize w'.drew = W at *
            go_rounds 1
            go_ret
            exact ⟨ret_int HE.out.symm, HB2.out⟩
          · have HE := hide (entFault_form hf (decide_eq_false (fun h => h.2.elim hk1 (fun h => hl h.2))))
            have hl0 : (0 : Int) < (e.chunks.length : Int) := by omega
            clear hf hl hz hk1
            go_wp2_with fail
            refine HI.out.mono ?_
            rintro r w' ⟨rfl, rfl⟩
            go_wp2_with fail
            go_ret
            exact ⟨ret_int HE.out.symm, HB1.out⟩
        · have HE := hide (entFault_form hf (decide_eq_false (fun h => h.2.elim hk1 (fun h => hz h.1))))
          have hzn : (e.size != 0) = true := by simp; exact hz
          clear hf hz hk1
          go_wp2_with fail
          refine HI.out.mono ?_
          rintro r w' ⟨rfl, rfl⟩
          go_wp2_with fail
          go_ret
          exact ⟨ret_int HE.out.symm, HB1.out⟩
    · have HE := hide (entFault_form hf (decide_eq_false (fun h => hk h.1)))
      have HI := hide (l1In_no e.kind 1 4 w1 (by omega))
      clear hf
      go_wp2_with fail
      refine HI.out.mono ?_
      rintro r w' ⟨rfl, rfl⟩
      go_wp2_with fail
      go_ret
      exact ⟨ret_int HE.out.symm, HB1.out⟩
  · rw [entFault_path hf]
    go_enter Tryz.func52, Tryz.ntmps52
    go_wp2_with fail
    refine (l3Fault_any _ _ (by rw [str_size]; omega)).mono ?_
    rintro r w1 ⟨rfl, hb1⟩
    rw [str_data]
    have HB1 := hide (below_next HN.out hb1)
    clear hb1 HN HB HR
    go_wp2_with fail
    go_ret
    exact ⟨rfl, HB1.out⟩
end Go.Proofs.YtlbccbikepkfiaaGreatDoor
