/-
  Texts of layers and of manifests, as lists of bytes: cut at a mark, joined with one, told and read. Nothing of a program.
-/
import Derived.Test.YtcknabinmbknaaaGreatDoorLayL
import Derived.Test.YtcknabinmbknaaaGreatDoorHexF
namespace Go.Proofs.YtcknabinmbknaaaGreatDoor
set_option linter.unusedVariables false

/-- Cut at each mark. -/
def cutC (m : UInt8) : Bs → List Bs
  | [] => [[]]
  | c :: l => if c = m then [] :: cutC m l else
    match cutC m l with
    | [] => [[c]]
    | p :: ps => (c :: p) :: ps

theorem cutC_ne (m : UInt8) (l : Bs) : cutC m l ≠ [] := by
  cases l with
  | nil => simp [cutC]
  | cons c l =>
    simp only [cutC]
    split
    · simp
    · split <;> simp
theorem cutC_mark {m : UInt8} (l : Bs) : cutC m (m :: l) = [] :: cutC m l := by simp [cutC]
theorem cutC_other {m : UInt8} {c : UInt8} (h : c ≠ m) {l : Bs} {p : Bs} {ps : List Bs} (e : cutC m l = p :: ps) : cutC m (c :: l) = (c :: p) :: ps := by
  simp [cutC, h, e]
theorem cutC_head {m : UInt8} (l : Bs) : ∃ p ps, cutC m l = p :: ps := by
  cases e : cutC m l with
  | nil => exact absurd e (cutC_ne m l)
  | cons p ps => exact ⟨p, ps, rfl⟩

theorem cutC_miss {m : UInt8} {l : Bs} (h : m ∉ l) : cutC m l = [l] := by
  induction l with
  | nil => rfl
  | cons c l ih =>
    have h1 : c ≠ m := fun e => h (by simp [e])
    have h2 : m ∉ l := fun e => h (by simp [e])
    exact cutC_other h1 (ih h2)
theorem cutC_hit {m : UInt8} {a : Bs} (b : Bs) (h : m ∉ a) : cutC m (a ++ m :: b) = a :: cutC m b := by
  induction a with
  | nil => exact cutC_mark b
  | cons c a ih =>
    have h1 : c ≠ m := fun e => h (by simp [e])
    have h2 : m ∉ a := fun e => h (by simp [e])
    exact cutC_other h1 (ih h2)

/-- One byte more, at the end. -/
theorem cutC_snoc {m : UInt8} : ∀ (l : Bs) (c : UInt8) (o : List Bs) (x : Bs), cutC m l = o ++ [x] → cutC m (l ++ [c]) = if c = m then o ++ [x] ++ [[]] else o ++ [x ++ [c]]
  | [], c, o, x, h => by
    have e : o = [] ∧ x = [] := by
      cases o with
      | nil => simpa [cutC, eq_comm] using h
      | cons a o => simp [cutC] at h
    obtain ⟨rfl, rfl⟩ := e
    by_cases hc : c = m
    · subst hc; simp [cutC]
    · simp [cutC, hc]
  | d :: l, c, o, x, h => by
    by_cases hd : d = m
    · subst hd
      rw [cutC_mark] at h
      cases o with
      | nil =>
        simp at h
        exact absurd h.2 (cutC_ne _ l)
      | cons a o =>
        simp at h
        obtain ⟨rfl, h⟩ := h
        have ih := cutC_snoc l c o x h
        simp only [List.cons_append, cutC_mark, ih]
        split <;> simp
    · obtain ⟨p, ps, e⟩ := cutC_head l
      rw [cutC_other hd e] at h
      cases o with
      | nil =>
        simp at h
        obtain ⟨rfl, rfl⟩ := h
        have ih := cutC_snoc l c [] p e
        by_cases hc : c = m
        · simp only [hc, if_pos, List.nil_append, List.cons_append] at ih ⊢
          exact cutC_other hd ih
        · simp only [hc, if_false, List.nil_append, List.cons_append] at ih ⊢
          exact cutC_other hd ih
      | cons a o =>
        simp at h
        obtain ⟨rfl, h⟩ := h
        have ih := cutC_snoc (m := m) l c (p :: o) x (by simp [e, h])
        by_cases hc : c = m
        · simp only [hc, if_pos, List.cons_append] at ih ⊢
          exact cutC_other hd ih
        · simp only [hc, if_false, List.cons_append] at ih ⊢
          exact cutC_other hd ih

theorem cutC_no {m : UInt8} : ∀ (l : Bs), ∀ n ∈ cutC m l, m ∉ n
  | [], n, h => by simp [cutC] at h; simp [h]
  | c :: l, n, h => by
    by_cases hc : c = m
    · subst hc
      rw [cutC_mark] at h
      rcases List.mem_cons.1 h with rfl | h
      · simp
      · exact cutC_no l n h
    · obtain ⟨p, ps, e⟩ := cutC_head l
      rw [cutC_other hc e] at h
      rcases List.mem_cons.1 h with rfl | h
      · have := cutC_no (m := m) l p (by simp [e])
        simp [this, Ne.symm hc]
      · exact cutC_no (m := m) l n (by simp [e, h])

theorem cutC_length {m : UInt8} (l : Bs) : (cutC m l).length ≤ l.length + 1 := by
  induction l with
  | nil => simp [cutC]
  | cons c l ih =>
    by_cases hc : c = m
    · subst hc; rw [cutC_mark]; simp; omega
    · obtain ⟨p, ps, e⟩ := cutC_head l
      rw [cutC_other hc e]
      rw [e] at ih
      simp at ih ⊢; omega
theorem cutC_each {m : UInt8} : ∀ (l : Bs), ∀ n ∈ cutC m l, n.length ≤ l.length
  | [], n, h => by simp [cutC] at h; simp [h]
  | c :: l, n, h => by
    by_cases hc : c = m
    · subst hc
      rw [cutC_mark] at h
      rcases List.mem_cons.1 h with rfl | h
      · simp
      · have := cutC_each l n h; simp; omega
    · obtain ⟨p, ps, e⟩ := cutC_head l
      rw [cutC_other hc e] at h
      rcases List.mem_cons.1 h with rfl | h
      · have := cutC_each (m := m) l p (by simp [e]); simp; omega
      · have := cutC_each (m := m) l n (by simp [e, h]); simp; omega

/-- Joined with a mark between. -/
def joinC (m : UInt8) : List Bs → Bs
  | [] => []
  | [p] => p
  | p :: q :: r => p ++ m :: joinC m (q :: r)
theorem joinC_two (m : UInt8) (p : Bs) {r : List Bs} (h : r ≠ []) : joinC m (p :: r) = p ++ m :: joinC m r := by
  cases r with
  | nil => exact absurd rfl h
  | cons q r => rfl
theorem joinC_cut (m : UInt8) : ∀ (l : Bs), joinC m (cutC m l) = l
  | [] => rfl
  | c :: l => by
    have ih := joinC_cut m l
    by_cases hc : c = m
    · rw [hc, cutC_mark, joinC_two m _ (cutC_ne m l), ih]; rfl
    · obtain ⟨p, ps, e⟩ := cutC_head (m := m) l
      rw [cutC_other hc e]
      rw [e] at ih
      cases ps with
      | nil => simp only [joinC] at ih ⊢; rw [ih]
      | cons q r => simp only [joinC] at ih ⊢; rw [List.cons_append, ih]
theorem cut_joinC {m : UInt8} : ∀ {ps : List Bs}, ps ≠ [] → (∀ p ∈ ps, m ∉ p) → cutC m (joinC m ps) = ps
  | [], h, _ => absurd rfl h
  | [p], _, h => cutC_miss (h p (by simp))
  | p :: q :: r, _, h => by
    show cutC m (p ++ m :: joinC m (q :: r)) = _
    rw [cutC_hit _ (h p (by simp)), cut_joinC (by simp) (fun x hx => h x (by simp at hx ⊢; exact .inr hx))]
theorem joinC_no {m c : UInt8} (hc : c ≠ m) : ∀ {ps : List Bs}, (∀ p ∈ ps, c ∉ p) → c ∉ joinC m ps
  | [], _ => by simp [joinC]
  | [p], h => h p (by simp)
  | p :: q :: r, h => by
    show c ∉ p ++ m :: joinC m (q :: r)
    have ih := joinC_no hc (ps := q :: r) (fun x hx => h x (by simp at hx ⊢; exact .inr hx))
    simp [h p (by simp), hc, ih]
def hexB (n : Int) : Bs := (hexText n).data.toList
theorem str_hexB (n : Int) : str (hexB n) = hexText n := str_of _
theorem hexB_length (n : Int) : (hexB n).length = 8 := by
  have := hexText_size n
  rw [Lib.size_eq] at this
  exact this
theorem hexB_chars (n : Int) : ∀ c ∈ hexB n, c ≠ 10 ∧ c ≠ 32 ∧ c ≠ 44 ∧ c ≠ 45 := by
  intro c hc
  have e : hexB n = (hexList n).map fun z => UInt8.ofNat z.toNat := rfl
  rw [e] at hc
  obtain ⟨z, hz, rfl⟩ := List.mem_map.1 hc
  obtain ⟨i, hi, rfl⟩ := List.mem_map.1 hz
  have hd : ∀ d : Fin 16, UInt8.ofNat (hexL.getD d.val 0).toNat ≠ 10 ∧ UInt8.ofNat (hexL.getD d.val 0).toNat ≠ 32 ∧ UInt8.ofNat (hexL.getD d.val 0).toNat ≠ 44 ∧ UInt8.ofNat (hexL.getD d.val 0).toNat ≠ 45 := by decide
  have hr := dg_range n i
  exact hd ⟨(dg n i).toNat, by unfold dg; omega⟩
theorem hexB_ne (n : Int) : hexB n ≠ [45] := by
  intro h
  have := hexB_length n
  rw [h] at this
  cases this

/-- A number from 0 to 99, in decimal. -/
def digB (n : Int) : Bs := if n < 10 then [UInt8.ofNat (48 + n).toNat] else [UInt8.ofNat (48 + n / 10).toNat, UInt8.ofNat (48 + n % 10).toNat]
theorem digB_chars (n : Int) (h0 : 0 ≤ n) (h1 : n ≤ 24) : ∀ c ∈ digB n, c ≠ 10 ∧ c ≠ 32 := by
  have : ∀ k : Fin 25, ∀ c ∈ digB (k.val : Int), c ≠ 10 ∧ c ≠ 32 := by decide
  have := this ⟨n.toNat, by omega⟩
  simpa [show ((n.toNat : Nat) : Int) = n from by omega] using this

def hexesB (cs : List Int) : Bs := if cs = [] then [45] else joinC 44 (cs.map hexB)
def kindB (k : Int) : Bs := if k = 1 then [102] else if k = 2 then [100] else if k = 3 then [119] else [111]
/-- What EntryText tells. -/
def textE (e : En) : Bs := if e.kind = 1 then joinC 32 [[102], e.path, digB e.size, hexesB e.chunks] else joinC 32 [kindB e.kind, e.path]
/-- What PackLayer tells. -/
def packL (es : List En) : Bs := (es.map fun e => textE e ++ [10]).flatten

/-- What a right entry is. -/
structure FitE (e : En) : Prop where
  path : faultP e.path = 0
  kind : 1 ≤ e.kind ∧ e.kind ≤ 4
  form : e.kind = 1 ∨ (e.size = 0 ∧ e.chunks = [])
  size : 0 ≤ e.size ∧ e.size ≤ 24
  many : (e.chunks.length : Int) = (e.size + 7) / 8
  digs : ∀ c ∈ e.chunks, 0 ≤ c ∧ c ≤ 4294967295
theorem entFault_fit {e : En} : entFault e = 0 ↔ FitE e := by
  constructor
  · intro h
    by_cases hp : faultP e.path = 0
    · by_cases h1 : formE e = true
      · by_cases h2 : sizeE e = true
        · by_cases h3 : manyE e = true
          · rw [entFault_digs hp h1 h2 h3] at h
            by_cases h4 : e.chunks.all isDig = true
            · simp only [formE, decide_eq_true_eq] at h1
              simp only [sizeE, decide_eq_true_eq] at h2
              simp only [manyE, decide_eq_true_eq] at h3
              refine ⟨hp, h1.1, ?_, h2, h3, ?_⟩
              · rcases h1.2 with h | h
                · exact .inl h
                · exact .inr ⟨h.1, List.length_eq_zero_iff.1 h.2⟩
              · intro c hc
                have := List.all_eq_true.1 h4 c hc
                simpa [isDig] using this
            · rw [if_neg h4] at h; cases h
          · rw [entFault_many hp h1 h2 (by simpa using h3)] at h; cases h
        · rw [entFault_size hp h1 (by simpa using h2)] at h; cases h
      · rw [entFault_form hp (by simpa using h1)] at h; cases h
    · rw [entFault_path hp] at h; exact absurd h hp
  · intro ⟨hp, hk, hf, hs, hm, hd⟩
    rw [entFault_digs hp (by simp only [formE, decide_eq_true_eq]; exact ⟨hk, hf.imp id fun h => ⟨h.1, by simp [h.2]⟩⟩) (by simp only [sizeE, decide_eq_true_eq]; exact hs) (by simp only [manyE, decide_eq_true_eq]; exact hm), if_pos]
    apply List.all_eq_true.2
    intro c hc
    simpa [isDig] using hd c hc

theorem plain_chars {n : Bs} (h : plain n = true) : ∀ c ∈ n, c ≠ 10 ∧ c ≠ 32 ∧ c ≠ 44 := by
  intro c hc
  simp only [plain, Bool.and_eq_true] at h
  have := List.all_eq_true.1 h.1 c hc
  simp only [small, decide_eq_true_eq] at this
  refine ⟨?_, ?_, ?_⟩ <;> (rintro rfl; simp at this)
theorem joinB_chars : ∀ {ns : List Bs}, (∀ n ∈ ns, plain n = true) → ∀ c ∈ joinB ns, c ≠ 10 ∧ c ≠ 32 ∧ c ≠ 44
  | [], _, c, hc => by simp [joinB] at hc
  | n :: ns, h, c, hc => by
    simp only [joinB, List.mem_cons, List.mem_append] at hc
    rcases hc with rfl | hc | hc
    · decide
    · exact plain_chars (h n (by simp)) c hc
    · exact joinB_chars (fun x hx => h x (by simp [hx])) c hc
theorem path_chars {p : Bs} (h : faultP p = 0) : ∀ c ∈ p, c ≠ 10 ∧ c ≠ 32 ∧ c ≠ 44 := by
  obtain ⟨ns, hn, rfl, -⟩ := faultP_zero h
  exact joinB_chars hn.2.1
theorem hexesB_chars (cs : List Int) : ∀ c ∈ hexesB cs, c ≠ 10 ∧ c ≠ 32 := by
  unfold hexesB
  split
  · decide
  · intro c hc
    have h10 : (10 : UInt8) ∉ joinC 44 (cs.map hexB) := joinC_no (by decide) (fun p hp => by obtain ⟨z, -, rfl⟩ := List.mem_map.1 hp; exact fun h => (hexB_chars z _ h).1 rfl)
    have h32 : (32 : UInt8) ∉ joinC 44 (cs.map hexB) := joinC_no (by decide) (fun p hp => by obtain ⟨z, -, rfl⟩ := List.mem_map.1 hp; exact fun h => (hexB_chars z _ h).2.1 rfl)
    exact ⟨fun e => h10 (e ▸ hc), fun e => h32 (e ▸ hc)⟩
theorem kindB_chars (k : Int) : ∀ c ∈ kindB k, c ≠ 10 ∧ c ≠ 32 := by
  unfold kindB
  repeat' split
  all_goals decide
/-- The words of a right entry's text. -/
def wordsE (e : En) : List Bs := if e.kind = 1 then [[102], e.path, digB e.size, hexesB e.chunks] else [kindB e.kind, e.path]
theorem textE_words (e : En) : textE e = joinC 32 (wordsE e) := by unfold textE wordsE; split <;> rfl
theorem wordsE_chars {e : En} (h : FitE e) : ∀ p ∈ wordsE e, ∀ c ∈ p, c ≠ 10 ∧ c ≠ 32 := by
  intro p hp
  have hpath : ∀ c ∈ e.path, c ≠ 10 ∧ c ≠ 32 := fun c hc => ⟨(path_chars h.path c hc).1, (path_chars h.path c hc).2.1⟩
  unfold wordsE at hp
  split at hp
  · simp only [List.mem_cons, List.not_mem_nil, or_false] at hp
    rcases hp with rfl | rfl | rfl | rfl
    · decide
    · exact hpath
    · exact digB_chars _ h.size.1 h.size.2
    · exact hexesB_chars _
  · simp only [List.mem_cons, List.not_mem_nil, or_false] at hp
    rcases hp with rfl | rfl
    · exact kindB_chars _
    · exact hpath
theorem wordsE_ne (e : En) : wordsE e ≠ [] := by unfold wordsE; split <;> simp
theorem cut_textE {e : En} (h : FitE e) : cutC 32 (textE e) = wordsE e := by
  rw [textE_words]
  exact cut_joinC (wordsE_ne e) (fun p hp hc => (wordsE_chars h p hp _ hc).2 rfl)
theorem textE_line {e : En} (h : FitE e) : (10 : UInt8) ∉ textE e := by
  rw [textE_words]
  exact joinC_no (by decide) (fun p hp hc => (wordsE_chars h p hp _ hc).1 rfl)

/-- A digest's text read. -/
def hexW (w : Bs) : Option Int := if w.length = 8 then pv w else none
theorem hexW_hex {n : Int} (h : 0 ≤ n ∧ n ≤ 4294967295) : hexW (hexB n) = some n := by
  unfold hexW
  rw [if_pos (hexB_length n)]
  exact pv_hex n h.1 h.2
theorem hexW_all : ∀ {cs : List Int}, (∀ c ∈ cs, 0 ≤ c ∧ c ≤ 4294967295) → (cs.map hexB).mapM hexW = some cs
  | [], _ => rfl
  | c :: cs, h => by
    rw [List.map_cons, List.mapM_cons, hexW_hex (h c (by simp)), hexW_all (fun x hx => h x (by simp [hx]))]
    rfl
theorem hexesB_one {cs : List Int} (h : cs ≠ []) : hexesB cs ≠ [45] := by
  unfold hexesB
  rw [if_neg h]
  intro e
  have hm : (45 : UInt8) ∈ joinC 44 (cs.map hexB) := by rw [e]; simp
  exact joinC_no (by decide) (fun p hp => by obtain ⟨z, -, rfl⟩ := List.mem_map.1 hp; exact fun h => (hexB_chars z _ h).2.2.2 rfl) hm
theorem cut_hexes {cs : List Int} (h : cs ≠ []) : cutC 44 (hexesB cs) = cs.map hexB := by
  unfold hexesB
  rw [if_neg h]
  exact cut_joinC (by simpa using h) (fun p hp => by obtain ⟨z, -, rfl⟩ := List.mem_map.1 hp; exact fun h => (hexB_chars z _ h).2.2.1 rfl)
end Go.Proofs.YtcknabinmbknaaaGreatDoor
