/-
  Paths as lists of bytes: cut at a stroke, joined again, their faults, what is left of pieces, what is above. Nothing of a program.
-/
import Derived.Lib.Bytealg
import Derived.Lib.Strings
namespace Go.Proofs.Ytcnoabkpilmanaa
set_option linter.unusedVariables false

abbrev Bs := List UInt8
def str (l : Bs) : ByteArray := ⟨l.toArray⟩
theorem str_data (l : Bs) : (str l).data.toList = l := by simp [str]
theorem str_size (l : Bs) : (str l).size = l.length := by simp [str, ByteArray.size]
theorem str_of (s : ByteArray) : str s.data.toList = s := by simp [str]
theorem str_inj {a b : Bs} (h : str a = str b) : a = b := by
  have := congrArg (fun s : ByteArray => s.data.toList) h
  simpa [str_data] using this
theorem str_eq_iff {a b : Bs} : str a = str b ↔ a = b := ⟨str_inj, fun h => by rw [h]⟩

/-- Cut at each stroke. -/
def cutB : Bs → List Bs
  | [] => [[]]
  | c :: l => if c = 47 then [] :: cutB l else
    match cutB l with
    | [] => [[c]]
    | p :: ps => (c :: p) :: ps
/-- A stroke ahead of each. -/
def joinB : List Bs → Bs
  | [] => []
  | n :: ns => 47 :: (n ++ joinB ns)

theorem cutB_ne (l : Bs) : cutB l ≠ [] := by
  cases l with
  | nil => simp [cutB]
  | cons c l =>
    simp only [cutB]
    split
    · simp
    · split <;> simp
theorem cutB_stroke (l : Bs) : cutB (47 :: l) = [] :: cutB l := by simp [cutB]
theorem cutB_other {c : UInt8} (h : c ≠ 47) {l : Bs} {p : Bs} {ps : List Bs} (e : cutB l = p :: ps) : cutB (c :: l) = (c :: p) :: ps := by
  simp [cutB, h, e]
theorem cutB_head (l : Bs) : ∃ p ps, cutB l = p :: ps := by
  cases e : cutB l with
  | nil => exact absurd e (cutB_ne l)
  | cons p ps => exact ⟨p, ps, rfl⟩

theorem cutB_miss {l : Bs} (h : (47 : UInt8) ∉ l) : cutB l = [l] := by
  induction l with
  | nil => rfl
  | cons c l ih =>
    have h1 : c ≠ 47 := fun e => h (by simp [e])
    have h2 : (47 : UInt8) ∉ l := fun e => h (by simp [e])
    exact cutB_other h1 (ih h2)
theorem cutB_hit {a : Bs} (b : Bs) (h : (47 : UInt8) ∉ a) : cutB (a ++ 47 :: b) = a :: cutB b := by
  induction a with
  | nil => exact cutB_stroke b
  | cons c a ih =>
    have h1 : c ≠ 47 := fun e => h (by simp [e])
    have h2 : (47 : UInt8) ∉ a := fun e => h (by simp [e])
    exact cutB_other h1 (ih h2)

/-- One byte more, at the end. -/
theorem cutB_snoc : ∀ (l : Bs) (c : UInt8) (o : List Bs) (x : Bs), cutB l = o ++ [x] → cutB (l ++ [c]) = if c = 47 then o ++ [x] ++ [[]] else o ++ [x ++ [c]]
  | [], c, o, x, h => by
    have e : o = [] ∧ x = [] := by
      cases o with
      | nil => simpa [cutB, eq_comm] using h
      | cons a o => simp [cutB] at h
    obtain ⟨rfl, rfl⟩ := e
    by_cases hc : c = 47
    · subst hc; simp [cutB]
    · simp [cutB, hc]
  | d :: l, c, o, x, h => by
    by_cases hd : d = 47
    · subst hd
      rw [cutB_stroke] at h
      cases o with
      | nil =>
        simp at h
        exact absurd h.2 (cutB_ne l)
      | cons a o =>
        simp at h
        obtain ⟨rfl, h⟩ := h
        have ih := cutB_snoc l c o x h
        simp only [List.cons_append, cutB_stroke, ih]
        split <;> simp
    · obtain ⟨p, ps, e⟩ := cutB_head l
      rw [cutB_other hd e] at h
      cases o with
      | nil =>
        simp at h
        obtain ⟨rfl, rfl⟩ := h
        have ih := cutB_snoc l c [] p e
        by_cases hc : c = 47
        · simp only [hc, if_pos, List.nil_append, List.cons_append] at ih ⊢
          exact cutB_other hd ih
        · simp only [hc, if_false, List.nil_append, List.cons_append] at ih ⊢
          exact cutB_other hd ih
      | cons a o =>
        simp at h
        obtain ⟨rfl, h⟩ := h
        have ih := cutB_snoc l c (p :: o) x (by simp [e, h])
        by_cases hc : c = 47
        · simp only [hc, if_pos, List.cons_append] at ih ⊢
          exact cutB_other hd ih
        · simp only [hc, if_false, List.cons_append] at ih ⊢
          exact cutB_other hd ih

theorem cutB_no : ∀ (l : Bs), ∀ n ∈ cutB l, (47 : UInt8) ∉ n
  | [], n, h => by simp [cutB] at h; simp [h]
  | c :: l, n, h => by
    by_cases hc : c = 47
    · subst hc
      rw [cutB_stroke] at h
      rcases List.mem_cons.1 h with rfl | h
      · simp
      · exact cutB_no l n h
    · obtain ⟨p, ps, e⟩ := cutB_head l
      rw [cutB_other hc e] at h
      rcases List.mem_cons.1 h with rfl | h
      · have := cutB_no l p (by simp [e])
        simp [this, Ne.symm hc]
      · exact cutB_no l n (by simp [e, h])

theorem join_append (a b : List Bs) : joinB (a ++ b) = joinB a ++ joinB b := by
  induction a with
  | nil => rfl
  | cons n a ih => simp [joinB, ih]
theorem join_cut : ∀ (l : Bs), joinB (cutB l) = 47 :: l
  | [] => rfl
  | c :: l => by
    by_cases hc : c = 47
    · subst hc
      rw [cutB_stroke, joinB, join_cut l]; rfl
    · obtain ⟨p, ps, e⟩ := cutB_head l
      have ih := join_cut l
      rw [e, joinB] at ih
      rw [cutB_other hc e, joinB]
      simp at ih ⊢
      exact ih
theorem cut_join : ∀ {ns : List Bs}, ns ≠ [] → (∀ n ∈ ns, (47 : UInt8) ∉ n) → cutB (joinB ns).tail = ns
  | [], h, _ => absurd rfl h
  | [n], _, h => by simpa [joinB] using cutB_miss (h n (by simp))
  | n :: m :: ns, _, h => by
    have ih := cut_join (ns := m :: ns) (by simp) (fun x hx => h x (by simp [List.mem_cons.1 hx]))
    have e : joinB (n :: m :: ns) = 47 :: (n ++ 47 :: (joinB (m :: ns)).tail) := by simp [joinB]
    rw [e, List.tail_cons, cutB_hit _ (h n (by simp)), ih]
theorem joinB_cons {ns : List Bs} (h : ns ≠ []) : joinB ns = 47 :: (joinB ns).tail := by
  cases ns with
  | nil => exact absurd rfl h
  | cons n ns => rfl

theorem cutB_length (l : Bs) : (cutB l).length ≤ l.length + 1 := by
  induction l with
  | nil => simp [cutB]
  | cons c l ih =>
    by_cases hc : c = 47
    · subst hc; rw [cutB_stroke]; simp; omega
    · obtain ⟨p, ps, e⟩ := cutB_head l
      rw [cutB_other hc e]
      rw [e] at ih
      simp at ih ⊢; omega
theorem cutB_each : ∀ (l : Bs), ∀ n ∈ cutB l, n.length ≤ l.length
  | [], n, h => by simp [cutB] at h; simp [h]
  | c :: l, n, h => by
    by_cases hc : c = 47
    · subst hc
      rw [cutB_stroke] at h
      rcases List.mem_cons.1 h with rfl | h
      · simp
      · have := cutB_each l n h; simp; omega
    · obtain ⟨p, ps, e⟩ := cutB_head l
      rw [cutB_other hc e] at h
      rcases List.mem_cons.1 h with rfl | h
      · have := cutB_each l p (by simp [e]); simp; omega
      · have := cutB_each l n (by simp [e, h]); simp; omega

/-- A byte a to z. -/
def small (c : UInt8) : Bool := decide (97 ≤ (c.toNat : Int) ∧ (c.toNat : Int) ≤ 122)
/-- A name of bytes a to z. -/
def plain (n : Bs) : Bool := n.all small && !n.isEmpty
/-- The fault of names. -/
def faultN (ns : List Bs) : Int := if ns.all plain then (if ns.all (fun n => decide (n.length ≤ 4)) && decide (ns.length ≤ 3) then 0 else 2) else 5
def faultP (p : Bs) : Int :=
  match p with
  | [] => 5
  | c :: r => if c = 47 then faultN (cutB r) else 5

/-- Names of a path. -/
def Names (ns : List Bs) : Prop := ns ≠ [] ∧ (∀ n ∈ ns, plain n = true) ∧ (∀ n ∈ ns, n.length ≤ 4) ∧ ns.length ≤ 3

theorem plain_no {n : Bs} (h : plain n = true) : (47 : UInt8) ∉ n := by
  intro hm
  simp only [plain, Bool.and_eq_true, List.all_eq_true] at h
  have := h.1 47 hm
  exact absurd this (by decide)
theorem plain_ne {n : Bs} (h : plain n = true) : n ≠ [] := by
  intro e
  subst e
  simp [plain] at h
theorem plain_dots {n : Bs} (h : plain n = true) : n ≠ [46] ∧ n ≠ [46, 46] := by
  constructor
  · rintro rfl; exact absurd h (by decide)
  · rintro rfl; exact absurd h (by decide)

theorem faultN_zero {ns : List Bs} (hne : ns ≠ []) (h : faultN ns = 0) : Names ns := by
  unfold faultN at h
  split at h
  · rename_i hp
    split at h
    · rename_i hq
      simp at hp hq
      exact ⟨hne, hp, hq.1, hq.2⟩
    · omega
  · omega
theorem faultN_of {ns : List Bs} (h : Names ns) : faultN ns = 0 := by
  obtain ⟨h0, h1, h2, h3⟩ := h
  unfold faultN
  rw [if_pos (by simpa using h1), if_pos (by simpa using ⟨h2, h3⟩)]
theorem faultN_cases (ns : List Bs) : faultN ns = 0 ∨ faultN ns = 2 ∨ faultN ns = 5 := by
  unfold faultN
  split
  · split <;> simp
  · simp
theorem faultP_cases (p : Bs) : faultP p = 0 ∨ faultP p = 2 ∨ faultP p = 5 := by
  unfold faultP
  split
  · simp
  · split
    · exact faultN_cases _
    · simp
theorem names_no {ns : List Bs} (h : Names ns) : ∀ n ∈ ns, (47 : UInt8) ∉ n := fun n hn => plain_no (h.2.1 n hn)
/-- A path without fault is made of its names. -/
theorem faultP_zero {p : Bs} (h : faultP p = 0) : ∃ ns, Names ns ∧ p = joinB ns ∧ cutB p.tail = ns ∧ p = 47 :: p.tail := by
  cases p with
  | nil => simp [faultP] at h
  | cons c r =>
    by_cases hc : c = 47
    · subst hc
      simp only [faultP, if_pos] at h
      have hn := faultN_zero (cutB_ne r) h
      exact ⟨cutB r, hn, by rw [join_cut], rfl, rfl⟩
    · simp [faultP, hc] at h
theorem faultP_of {ns : List Bs} (h : Names ns) : faultP (joinB ns) = 0 := by
  rw [joinB_cons h.1]
  simp only [faultP, if_pos]
  rw [cut_join h.1 (names_no h)]
  exact faultN_of h
theorem cut_of {ns : List Bs} (h : Names ns) : cutB (joinB ns).tail = ns := cut_join h.1 (names_no h)

/-- What a piece makes of those that are left. -/
def leftStep (o : Option (List Bs)) (p : Bs) : Option (List Bs) :=
  match o with
  | none => none
  | some l => if p = [] ∨ p = [46] then some l else if p = [46, 46] then (if l = [] then none else some l.dropLast) else some (l ++ [p])
def leftOf (ps : List Bs) : Option (List Bs) := ps.foldl leftStep (some [])
theorem leftOf_snoc (ps : List Bs) (p : Bs) : leftOf (ps ++ [p]) = leftStep (leftOf ps) p := by simp [leftOf]
theorem left_none (ps : List Bs) : ps.foldl leftStep none = none := by
  induction ps with
  | nil => rfl
  | cons a l ih => exact ih
theorem left_stop {ps qs : List Bs} (h : leftOf ps = none) : leftOf (ps ++ qs) = none := by
  unfold leftOf at h ⊢
  rw [List.foldl_append, h, left_none]
theorem left_len : ∀ (ps : List Bs) (o : Option (List Bs)) (l : List Bs), ps.foldl leftStep o = some l → ∃ k, o = some k ∧ l.length ≤ k.length + ps.length
  | [], o, l, h => ⟨l, h, by simp⟩
  | p :: ps, o, l, h => by
    obtain ⟨k, hk, hl⟩ := left_len ps _ l h
    cases o with
    | none => simp [leftStep] at hk
    | some m =>
      refine ⟨m, rfl, ?_⟩
      simp only [leftStep] at hk
      split at hk
      · obtain rfl := Option.some.inj hk; simp; omega
      · split at hk
        · split at hk
          · cases hk
          · obtain rfl := Option.some.inj hk; simp at hl ⊢; omega
        · obtain rfl := Option.some.inj hk; simp at hl ⊢; omega
theorem leftOf_len {ps l : List Bs} (h : leftOf ps = some l) : l.length ≤ ps.length := by
  obtain ⟨k, hk, hl⟩ := left_len ps _ l h
  obtain rfl := Option.some.inj hk
  simpa using hl
theorem left_mem : ∀ (ps : List Bs) (o : Option (List Bs)) (l : List Bs), ps.foldl leftStep o = some l → ∃ k, o = some k ∧ ∀ x ∈ l, x ∈ k ∨ x ∈ ps
  | [], o, l, h => ⟨l, h, fun x hx => .inl hx⟩
  | p :: ps, o, l, h => by
    obtain ⟨k, hk, hl⟩ := left_mem ps _ l h
    cases o with
    | none => simp [leftStep] at hk
    | some m =>
      refine ⟨m, rfl, fun x hx => ?_⟩
      rcases hl x hx with h1 | h1
      · simp only [leftStep] at hk
        split at hk
        · obtain rfl := Option.some.inj hk; exact .inl h1
        · split at hk
          · split at hk
            · cases hk
            · obtain rfl := Option.some.inj hk; exact .inl (List.dropLast_subset _ h1)
          · obtain rfl := Option.some.inj hk
            rcases List.mem_append.1 h1 with h2 | h2
            · exact .inl h2
            · simp at h2; exact .inr (by simp [h2])
      · exact .inr (by simp [h1])
theorem leftOf_mem {ps l : List Bs} (h : leftOf ps = some l) : ∀ x ∈ l, x ∈ ps := by
  obtain ⟨k, hk, hl⟩ := left_mem ps _ l h
  obtain rfl := Option.some.inj hk
  intro x hx
  simpa using hl x hx

/-- What NormPath answers. -/
def normC (t : Bs) : Int :=
  if 40 < t.length then 2 else
    match leftOf (cutB t) with
    | none => 5
    | some l => if l = [] then 4 else faultP (joinB l)
def normT (t : Bs) : Bs :=
  if normC t = 0 then
    match leftOf (cutB t) with
    | none => []
    | some l => joinB l
  else []

theorem normC_many {t : Bs} (h : 40 < t.length) : normC t = 2 ∧ normT t = [] := by
  have e : normC t = 2 := by simp [normC, h]
  exact ⟨e, by simp [normT, e]⟩
theorem normC_none {t : Bs} (h : ¬ 40 < t.length) (hl : leftOf (cutB t) = none) : normC t = 5 ∧ normT t = [] := by
  have e : normC t = 5 := by simp [normC, h, hl]
  exact ⟨e, by simp [normT, e]⟩
theorem normC_empty {t : Bs} (h : ¬ 40 < t.length) (hl : leftOf (cutB t) = some []) : normC t = 4 ∧ normT t = [] := by
  have e : normC t = 4 := by simp [normC, h, hl]
  exact ⟨e, by simp [normT, e]⟩
theorem normC_bad {t : Bs} {l : List Bs} (h : ¬ 40 < t.length) (hl : leftOf (cutB t) = some l) (hne : l ≠ []) (hf : faultP (joinB l) ≠ 0) : normC t = faultP (joinB l) ∧ normT t = [] := by
  have e : normC t = faultP (joinB l) := by simp [normC, h, hl, hne]
  exact ⟨e, by simp [normT, e, hf]⟩
theorem normC_good {t : Bs} {l : List Bs} (h : ¬ 40 < t.length) (hl : leftOf (cutB t) = some l) (hne : l ≠ []) (hf : faultP (joinB l) = 0) : normC t = 0 ∧ normT t = joinB l := by
  have e : normC t = 0 := by simp [normC, h, hl, hne, hf]
  exact ⟨e, by simp [normT, e, hl]⟩

theorem norm_zero {t : Bs} (h : normC t = 0) : faultP (normT t) = 0 := by
  by_cases h1 : 40 < t.length
  · rw [(normC_many h1).1] at h; omega
  · cases hl : leftOf (cutB t) with
    | none => rw [(normC_none h1 hl).1] at h; omega
    | some l =>
      by_cases h2 : l = []
      · subst h2; rw [(normC_empty h1 hl).1] at h; omega
      · by_cases h3 : faultP (joinB l) = 0
        · rw [(normC_good h1 hl h2 h3).2]; exact h3
        · rw [(normC_bad h1 hl h2 h3).1] at h; exact absurd h h3

theorem left_plain : ∀ (ns l : List Bs), (∀ n ∈ ns, plain n = true) → ns.foldl leftStep (some l) = some (l ++ ns)
  | [], l, _ => by simp
  | n :: ns, l, h => by
    have hn := h n (by simp)
    have e : leftStep (some l) n = some (l ++ [n]) := by
      simp [leftStep, plain_ne hn, (plain_dots hn).1, (plain_dots hn).2]
    rw [List.foldl_cons, e, left_plain ns _ (fun m hm => h m (by simp [hm]))]
    simp
theorem join_len : ∀ (ns : List Bs), (∀ n ∈ ns, n.length ≤ 4) → (joinB ns).length ≤ 5 * ns.length
  | [], _ => by simp [joinB]
  | n :: ns, h => by
    have := join_len ns (fun m hm => h m (by simp [hm]))
    have := h n (by simp)
    simp [joinB]; omega
/-- A path is made one again: it is the same. -/
theorem norm_same {p : Bs} (h : faultP p = 0) : normC p = 0 ∧ normT p = p := by
  obtain ⟨ns, hN, hp, hc, hs⟩ := faultP_zero h
  have hlen : ¬ 40 < p.length := by
    have := join_len ns hN.2.2.1
    have := hN.2.2.2
    rw [hp]; omega
  have hl : leftOf (cutB p) = some ns := by
    rw [hs, cutB_stroke, hc]
    show ns.foldl leftStep (leftStep (some []) []) = _
    have : leftStep (some []) [] = some [] := by simp [leftStep]
    rw [this, left_plain ns [] hN.2.1]
    rfl
  have hf : faultP (joinB ns) = 0 := by rw [← hp]; exact h
  have := normC_good hlen hl hN.1 hf
  rw [← hp] at this
  exact this

/-- What is above names: the uppermost first. -/
def aboveN (ns : List Bs) : List Bs := (List.range (ns.length - 1)).map fun k => joinB (ns.take (k + 1))
/-- What AboveOf answers. -/
def above (p : Bs) : List Bs := if faultP p = 0 then aboveN (cutB p.tail) else []

theorem aboveN_length (ns : List Bs) : (aboveN ns).length = ns.length - 1 := by simp [aboveN]
theorem names_take {ns : List Bs} (h : Names ns) {k : Nat} (hk : 0 < k) : Names (ns.take k) := by
  obtain ⟨h0, h1, h2, h3⟩ := h
  refine ⟨?_, fun n hn => h1 n (List.mem_of_mem_take hn), fun n hn => h2 n (List.mem_of_mem_take hn), by simp; omega⟩
  cases ns with
  | nil => exact absurd rfl h0
  | cons a l => cases k with
    | zero => omega
    | succ k => simp
theorem mem_aboveN {ns : List Bs} {t : Bs} : t ∈ aboveN ns ↔ ∃ k, 0 < k ∧ k < ns.length ∧ t = joinB (ns.take k) := by
  unfold aboveN
  simp only [List.mem_map, List.mem_range]
  constructor
  · rintro ⟨k, hk, rfl⟩; exact ⟨k + 1, by omega, by omega, rfl⟩
  · rintro ⟨k, h0, hk, rfl⟩
    refine ⟨k - 1, by omega, ?_⟩
    have : k - 1 + 1 = k := by omega
    rw [this]

/-- The model's word: path begins with top, a stroke behind it, and more. -/
def belowB (p t : Bs) : Bool := decide (t.length + 1 < p.length) && (p.take t.length == t) && (p.drop t.length).head? == some 47

/-- Is t above p? Both words are one. -/
theorem above_iff {p t : Bs} (hp : faultP p = 0) : t ∈ aboveN (cutB p.tail) ↔ faultP t = 0 ∧ belowB p t = true := by
  obtain ⟨ns, hN, hpe, hc, hs⟩ := faultP_zero hp
  rw [hc, mem_aboveN]
  constructor
  · rintro ⟨k, h0, hk, rfl⟩
    refine ⟨faultP_of (names_take hN h0), ?_⟩
    have hd : ns.drop k ≠ [] := by intro e; have := congrArg List.length e; simp at this; omega
    obtain ⟨m, ms, hm⟩ : ∃ m ms, ns.drop k = m :: ms := by
      cases e : ns.drop k with
      | nil => exact absurd e hd
      | cons m ms => exact ⟨m, ms, rfl⟩
    have hm1 : m ∈ ns := List.mem_of_mem_drop (by rw [hm]; simp)
    have hm2 := plain_ne (hN.2.1 m hm1)
    have e : p = joinB (ns.take k) ++ 47 :: (m ++ joinB ms) := by
      rw [hpe]
      conv => lhs; rw [← List.take_append_drop k ns, join_append, hm, joinB]
    have hl : 0 < m.length := List.length_pos_iff.2 hm2
    rw [e]
    simp [belowB]
    omega
  · rintro ⟨ht, hb⟩
    obtain ⟨ms, hM, hte, hcm, hsm⟩ := faultP_zero ht
    simp only [belowB, Bool.and_eq_true, decide_eq_true_eq, beq_iff_eq] at hb
    obtain ⟨⟨hlen, htake⟩, hhead⟩ := hb
    obtain ⟨r, hr⟩ : ∃ r, p.drop t.length = 47 :: r := by
      cases e : p.drop t.length with
      | nil => rw [e] at hhead; simp at hhead
      | cons c r => rw [e] at hhead; simp at hhead; exact ⟨r, by rw [hhead]⟩
    have e : p = joinB (ms ++ cutB r) := by
      rw [join_append, join_cut, ← hte, ← hr]
      conv => lhs; rw [← List.take_append_drop t.length p, htake]
    have hns : ns = ms ++ cutB r := by
      rw [← hc, e]
      refine cut_join (by simp [hM.1]) (fun n hn => ?_)
      rcases List.mem_append.1 hn with h | h
      · exact names_no hM n h
      · exact cutB_no r n h
    refine ⟨ms.length, List.length_pos_iff.2 hM.1, ?_, ?_⟩
    · rw [hns]; have := List.length_pos_iff.2 (cutB_ne r); simp; omega
    · rw [hns]; simp [hte]

theorem aboveN_good {ns : List Bs} (h : Names ns) {t : Bs} (ht : t ∈ aboveN ns) : faultP t = 0 := by
  obtain ⟨k, h0, _, rfl⟩ := mem_aboveN.1 ht
  exact faultP_of (names_take h h0)
/-- A path that is shorter is not below. -/
theorem below_not {p t : Bs} (hp : faultP p = 0) (ht : t ∈ above p) : belowB t p = false := by
  have h1 := ht
  rw [above, if_pos hp] at h1
  have h2 := ((above_iff hp).1 h1).2
  simp only [belowB, Bool.and_eq_true, decide_eq_true_eq, beq_iff_eq] at h2
  have h3 : ¬ p.length + 1 < t.length := by omega
  simp [belowB, h3]

/-- The last name. -/
def lastN (ns : List Bs) : Bs := ns.getLastD []
theorem last_split {ns : List Bs} (h : ns ≠ []) : ns = ns.dropLast ++ [lastN ns] := by
  rw [lastN, List.getLastD_eq_getLast?]
  rw [List.getLast?_eq_some_getLast h]
  exact (List.dropLast_concat_getLast h).symm
/-- The path above, a stroke, the last name. -/
theorem parent_join {ns : List Bs} (h : 1 < ns.length) : (aboveN ns).getLastD [] ++ 47 :: lastN ns = joinB ns := by
  have hne : ns ≠ [] := by intro e; simp [e] at h
  have e1 : (aboveN ns).getLastD [] = joinB ns.dropLast := by
    unfold aboveN
    obtain ⟨k, hk⟩ : ∃ k, ns.length - 1 = k + 1 := ⟨ns.length - 2, by omega⟩
    rw [hk, List.range_succ, List.map_append]
    simp [List.dropLast_eq_take, hk]
  rw [e1]
  conv => rhs; rw [last_split hne, join_append]
  simp [joinB]

end Go.Proofs.Ytcnoabkpilmanaa
