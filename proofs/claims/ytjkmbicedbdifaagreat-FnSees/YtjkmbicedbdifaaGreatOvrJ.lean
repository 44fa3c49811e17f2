/-
  The names below a path that are seen through layers: what the model tells, as lists.
-/
import Derived.Test.YtjkmbicedbdifaaGreatJ1
import Derived.Test.YtjkmbicedbdifaaGreatOvrH
import Derived.Test.YtjkmbicedbdifaaGreatTreN
namespace Go.Proofs.YtjkmbicedbdifaaGreat
set_option linter.unusedVariables false

theorem snocInd {α : Type} {motive : List α → Prop} (nil : motive []) (snoc : ∀ (l : List α) (x : α), motive l → motive (l ++ [x])) (l : List α) : motive l := by
  have h : ∀ r : List α, motive r.reverse := by
    intro r
    induction r with
    | nil => exact nil
    | cons x r ih => rw [List.reverse_cons]; exact snoc _ _ ih
  have h2 := h l.reverse
  rwa [List.reverse_reverse] at h2
/-- A path is its parent, a stroke and its last name. -/
theorem path_last {p : Bs} (h : faultP p = 0) : p = parentP p ++ 47 :: lastP p := by
  obtain ⟨ns, hN, hp, hc, -⟩ := faultP_zero h
  have h1 : lastP p = lastN ns := by unfold lastP; rw [hc]
  have h2 := last_split hN.1
  have h3 : parentP p = joinB ns.dropLast := by
    unfold parentP
    rw [hc]
    by_cases hl : 1 < ns.length
    · rw [parent_take hl, List.dropLast_eq_take]
    · have h4 : aboveN ns = [] := List.eq_nil_of_length_eq_zero (by rw [aboveN_length]; omega)
      have h5 : ns.dropLast = [] := List.eq_nil_of_length_eq_zero (by rw [List.length_dropLast]; omega)
      rw [h4, h5]; rfl
  rw [h1, h3]
  have h6 : joinB ns = joinB ns.dropLast ++ 47 :: lastN ns := by
    conv => lhs; rw [h2]
    rw [join_append]; simp [joinB]
  rw [← h6]; exact hp
theorem bl_pre : ∀ (q a b : Bs), Op.bytesLess (q ++ a) (q ++ b) = Op.bytesLess a b
  | [], a, b => rfl
  | c :: q, a, b => by
    have := bl_pre q a b
    simp [Op.bytesLess, this]
def cpB (q x : Bs) : Bs := q ++ 47 :: x
theorem bl_kid (q a b : Bs) : Op.bytesLess (cpB q a) (cpB q b) = Op.bytesLess a b := by
  unfold cpB
  rw [bl_pre]
  simp [Op.bytesLess]
theorem kid_path {e : En} {q : Bs} (h : faultP e.path = 0) (hq : parentP e.path = q) : e.path = cpB q (lastP e.path) := by
  have := path_last h
  rw [hq] at this
  exact this
theorem cp_inj {q a b : Bs} (h : cpB q a = cpB q b) : a = b := by
  unfold cpB at h
  have := List.append_cancel_left h
  simpa using this

/-- Names that rise. -/
def RiseS (ns : List Bs) : Prop := ns.Pairwise fun x y => Op.bytesLess x y = true
def mkE (n : Bs) : En := ⟨n, 0, 0, []⟩
theorem riseS_mk {ns : List Bs} : Rise (ns.map mkE) ↔ RiseS ns := by
  unfold Rise RiseS
  rw [List.pairwise_map]
  exact Iff.rfl
theorem map_mk_path (ns : List Bs) : (ns.map mkE).map En.path = ns := by
  rw [List.map_map]
  conv => rhs; rw [← List.map_id ns]
  exact List.map_congr_left fun _ _ => rfl
theorem riseS_ext {a b : List Bs} (ha : RiseS a) (hb : RiseS b) (h : ∀ x, x ∈ a ↔ x ∈ b) : a = b := by
  have h1 : a.map mkE = b.map mkE := by
    have hra := riseS_mk.2 ha
    have hrb := riseS_mk.2 hb
    refine rise_ext hra hrb (fun q => ?_)
    by_cases hq : q ∈ a
    · have e1 := rise_find hra (List.mem_map.2 ⟨q, hq, rfl⟩)
      have e2 := rise_find hrb (List.mem_map.2 ⟨q, (h q).1 hq, rfl⟩)
      exact e1.trans e2.symm
    · have hq2 : q ∉ b := fun hb => hq ((h q).2 hb)
      rw [find_none (fun x hx e => ?_), find_none (fun x hx e => ?_)]
      · obtain ⟨y, hy, rfl⟩ := List.mem_map.1 hx
        exact hq2 (by rw [← e]; exact hy)
      · obtain ⟨y, hy, rfl⟩ := List.mem_map.1 hx
        exact hq (by rw [← e]; exact hy)
  rw [← map_mk_path a, ← map_mk_path b, h1]
theorem putS_mk (ps : List Bs) (p : Bs) : (putS ps p).map mkE = putAt (ps.map mkE) (mkE p) := by
  have h1 : lowN (ps.map mkE) p = lowS ps p := by
    unfold lowN lowS
    rw [List.takeWhile_map, List.length_map]
    rfl
  unfold putS putAt
  rw [show (mkE p).path = p from rfl, h1]
  simp
theorem mem_putS {ps : List Bs} {p x : Bs} : x ∈ putS ps p ↔ x = p ∨ x ∈ ps := by
  have h1 : mkE x ∈ (putS ps p).map mkE ↔ x ∈ putS ps p := by
    constructor
    · intro h
      obtain ⟨y, hy, he⟩ := List.mem_map.1 h
      have : y = x := congrArg En.path he
      rw [← this]; exact hy
    · exact fun h => List.mem_map.2 ⟨x, h, rfl⟩
  rw [← h1, putS_mk, mem_putAt]
  constructor
  · rintro (h | h)
    · exact .inl (congrArg En.path h)
    · obtain ⟨y, hy, he⟩ := List.mem_map.1 h
      have : y = x := congrArg En.path he
      exact .inr (by rw [← this]; exact hy)
  · rintro (h | h)
    · exact .inl (by rw [h])
    · exact .inr (List.mem_map.2 ⟨x, h, rfl⟩)
theorem riseS_put {ps : List Bs} {p : Bs} (h : RiseS ps) (hn : p ∉ ps) : RiseS (putS ps p) := by
  rw [← riseS_mk, putS_mk]
  refine rise_putAt (riseS_mk.2 h) (fun x hx e => ?_)
  obtain ⟨y, hy, rfl⟩ := List.mem_map.1 hx
  have : y = p := e
  exact hn (by rw [← this]; exact hy)
theorem names_rise {T : List En} (h : Fit T) (q : Bs) : RiseS (namesE T q) := by
  unfold RiseS namesE
  rw [List.pairwise_map]
  have h1 : (kidsE T q).Pairwise (fun x y => Op.bytesLess x.path y.path = true) := List.Pairwise.filter _ h.rise
  refine h1.imp_of_mem (fun {a b} ha hb hab => ?_)
  have ha' := List.mem_filter.1 ha
  have hb' := List.mem_filter.1 hb
  rw [kid_path (h.path ha'.1) (of_decide_eq_true ha'.2), kid_path (h.path hb'.1) (of_decide_eq_true hb'.2), bl_kid] at hab
  exact hab

/-- One entry of the model's loop. -/
def stepN (s : List Bs × List Bs) (e : En) : List Bs × List Bs :=
  if lastP e.path ∈ s.1 then s else (s.1 ++ [lastP e.path], if e.kind = 3 then s.2 else putS s.2 (lastP e.path))
def runN (D : List En) : List Bs × List Bs := D.foldl stepN ([], [])
theorem runN_snoc (D : List En) (e : En) : runN (D ++ [e]) = stepN (runN D) e := by simp [runN]
/-- What the loop holds: names that were met, and those of them that are seen. -/
theorem runN_says (D : List En) : (∀ x, x ∈ (runN D).1 ↔ ∃ e ∈ D, lastP e.path = x) ∧ (∀ x, x ∈ (runN D).2 ↔ (D.find? fun e => decide (lastP e.path = x)).any (fun e => !decide (e.kind = 3)) = true) ∧ RiseS (runN D).2 ∧ (runN D).1.length ≤ D.length ∧ (runN D).2.length ≤ D.length := by
  induction D using snocInd with
  | nil => exact ⟨fun x => by simp [runN], fun x => by simp [runN], List.Pairwise.nil, Nat.le_refl _, Nat.le_refl _⟩
  | snoc D e ih =>
    obtain ⟨h1, h2, h3, h4, h5⟩ := ih
    rw [runN_snoc]
    unfold stepN
    by_cases hm : lastP e.path ∈ (runN D).1
    · rw [if_pos hm]
      obtain ⟨d, hd, hdl⟩ := (h1 _).1 hm
      refine ⟨fun x => ?_, fun x => ?_, h3, by simp; omega, by simp; omega⟩
      · rw [h1]
        constructor
        · rintro ⟨y, hy, hl⟩; exact ⟨y, by simp [hy], hl⟩
        · rintro ⟨y, hy, hl⟩
          rcases List.mem_append.1 hy with hy | hy
          · exact ⟨y, hy, hl⟩
          · simp at hy; subst hy; exact ⟨d, hd, by rw [hdl, hl]⟩
      · rw [h2, List.find?_append]
        by_cases hx : lastP e.path = x
        · have : (D.find? fun e => decide (lastP e.path = x)).isSome = true := by
            rw [List.find?_isSome]
            exact ⟨d, hd, decide_eq_true (by rw [hdl, hx])⟩
          obtain ⟨y, hy⟩ := Option.isSome_iff_exists.1 this
          rw [hy]; simp
        · have h7 : [e].find? (fun e => decide (lastP e.path = x)) = none := by simp [hx]
          rw [h7]; simp
    · rw [if_neg hm]
      have hno : D.find? (fun y => decide (lastP y.path = lastP e.path)) = none := by
        rw [List.find?_eq_none]
        intro y hy hq
        exact hm ((h1 _).2 ⟨y, hy, of_decide_eq_true hq⟩)
      have hno2 : lastP e.path ∉ (runN D).2 := fun hq => by
        rw [h2, hno] at hq; simp at hq
      refine ⟨fun x => ?_, fun x => ?_, ?_, by simp; omega, ?_⟩
      · rw [List.mem_append, h1]
        constructor
        · rintro (⟨y, hy, hl⟩ | hx)
          · exact ⟨y, by simp [hy], hl⟩
          · simp at hx; exact ⟨e, by simp, hx.symm⟩
        · rintro ⟨y, hy, hl⟩
          rcases List.mem_append.1 hy with hy | hy
          · exact .inl ⟨y, hy, hl⟩
          · simp at hy; subst hy; exact .inr (by simp [hl])
      · rw [List.find?_append]
        by_cases hx : lastP e.path = x
        · subst hx
          rw [hno]
          by_cases h3k : e.kind = 3
          · simp only [h3k, if_true]
            have : ¬ lastP e.path ∈ (runN D).2 := hno2
            simp [this, h3k]
          · simp only [h3k, if_false]
            rw [mem_putS]
            simp [h3k]
        · have h7 : [e].find? (fun e => decide (lastP e.path = x)) = none := by simp [hx]
          rw [h7, Option.or_none]
          by_cases h3k : e.kind = 3
          · simp only [h3k, if_true]; exact h2 x
          · simp only [h3k, if_false]
            rw [mem_putS, h2]
            constructor
            · rintro (h8 | h8)
              · exact absurd h8.symm hx
              · exact h8
            · exact .inr
      · by_cases h3k : e.kind = 3
        · simp only [h3k, if_true]; exact h3
        · simp only [h3k, if_false]; exact riseS_put h3 hno2
      · by_cases h3k : e.kind = 3
        · simp only [h3k, if_true]; simp; omega
        · simp only [h3k, if_false]; rw [putS_len]; simp; omega

/-- How a layer hides what is below a path (the top: not at all). -/
def hidQ (es : List En) (q : Bs) : Int := if q = [] then 0 else hidN es q
/-- The entries that the model's loop comes to, of the first n layers. -/
def comeD (ls : List (List En)) (q : Bs) : Nat → List En
  | 0 => []
  | n + 1 => match ls[n]? with
    | none => []
    | some es => if hidQ es q = 2 then [] else kidsE es q ++ (if hidQ es q = 1 then [] else comeD ls q n)
theorem come_two {ls : List (List En)} {q : Bs} {n : Nat} {es : List En} (h : ls[n]? = some es) (h2 : hidQ es q = 2) : comeD ls q (n + 1) = [] := by simp [comeD, h, h2]
theorem come_one {ls : List (List En)} {q : Bs} {n : Nat} {es : List En} (h : ls[n]? = some es) (h1 : hidQ es q = 1) : comeD ls q (n + 1) = kidsE es q := by simp [comeD, h, h1]
theorem come_on {ls : List (List En)} {q : Bs} {n : Nat} {es : List En} (h : ls[n]? = some es) (h2 : hidQ es q ≠ 2) (h1 : hidQ es q ≠ 1) : comeD ls q (n + 1) = kidsE es q ++ comeD ls q n := by simp [comeD, h, h1, h2]
theorem come_len {ls : List (List En)} {q : Bs} (h : ∀ es ∈ ls, Right es) : ∀ n, n ≤ ls.length → (comeD ls q n).length ≤ 12 * n
  | 0, _ => by simp [comeD]
  | n + 1, hn => by
    have ih := come_len (q := q) h n (by omega)
    obtain ⟨es, he⟩ : ∃ es, ls[n]? = some es := ⟨_, List.getElem?_eq_getElem (by omega)⟩
    have h12 := (h es (List.mem_of_getElem? he)).len
    have hk : (kidsE es q).length ≤ es.length := List.length_filter_le _ _
    by_cases h2 : hidQ es q = 2
    · rw [come_two he h2]; simp
    · by_cases h1 : hidQ es q = 1
      · rw [come_one he h1]; omega
      · rw [come_on he h2 h1, List.length_append]; omega
theorem come_mem {ls : List (List En)} {q : Bs} : ∀ {n : Nat} {e : En}, e ∈ comeD ls q n → parentP e.path = q ∧ ∃ es ∈ ls, e ∈ es
  | 0, e, h => by simp [comeD] at h
  | n + 1, e, h => by
    cases he : ls[n]? with
    | none => simp [comeD, he] at h
    | some es =>
      have hk : ∀ {x}, x ∈ kidsE es q → parentP x.path = q ∧ ∃ es ∈ ls, x ∈ es := fun hx => ⟨of_decide_eq_true (List.mem_filter.1 hx).2, es, List.mem_of_getElem? he, (List.mem_filter.1 hx).1⟩
      by_cases h2 : hidQ es q = 2
      · rw [come_two he h2] at h; simp at h
      · by_cases h1 : hidQ es q = 1
        · rw [come_one he h1] at h; exact hk h
        · rw [come_on he h2 h1] at h
          rcases List.mem_append.1 h with h | h
          · exact hk h
          · exact come_mem h
/-- What is above a child: what is above its parent, and that. -/
theorem above_kid {c q : Bs} (hc : faultP c = 0) (hq : parentP c = q) : above c = if q = [] then [] else above q ++ [q] := by
  obtain ⟨ns, hN, hp, hcu, -⟩ := faultP_zero hc
  rw [above_good hc, hcu]
  have hpar : q = (aboveN ns).getLastD [] := by rw [← hq]; unfold parentP; rw [hcu]
  by_cases h0 : q = []
  · rw [if_pos h0]
    have := parentP_nil.1 (hq.trans h0)
    rw [hcu] at this
    exact this
  · rw [if_neg h0]
    have hl : 1 < ns.length := by
      refine Nat.lt_of_not_le (fun hle => h0 ?_)
      have h4 : aboveN ns = [] := List.eq_nil_of_length_eq_zero (by rw [aboveN_length]; omega)
      rw [hpar, h4]; rfl
    rw [parent_take hl] at hpar
    have hT : Names (ns.take (ns.length - 1)) := names_take hN (by omega)
    have hqf : faultP q = 0 := by rw [hpar]; exact faultP_of hT
    rw [above_good hqf]
    have hcq : cutB q.tail = ns.take (ns.length - 1) := by rw [hpar]; exact cut_of hT
    rw [hcq]
    unfold aboveN
    rw [List.length_take]
    obtain ⟨m, hm⟩ : ∃ m, ns.length = m + 2 := ⟨ns.length - 2, by omega⟩
    have e1 : min (ns.length - 1) ns.length - 1 = m := by omega
    have e2 : ns.length - 1 = m + 1 := by omega
    rw [e1, e2, List.range_succ, List.map_append]
    congr 1
    · refine List.map_congr_left fun k hk => ?_
      have := List.mem_range.1 hk
      rw [List.take_take, Nat.min_eq_left (by omega)]
    · simp [hpar, e2]
theorem over_append (es : List En) (ups : List Bs) (q : Bs) : overN es (ups ++ [q]) = if overN es ups = 2 ∨ rankE es q = 2 then 2 else if overN es ups = 1 ∨ rankE es q = 1 then 1 else 0 := by
  unfold overN
  simp only [List.any_append, List.any_cons, List.any_nil, Bool.or_false]
  by_cases h1 : ups.any (fun u => decide (rankE es u = 2)) = true
  · simp [h1]
  · by_cases h2 : ups.any (fun u => decide (rankE es u = 1)) = true
    · rcases rank_cases es q with h | h | h <;> simp [h1, h2, h]
    · rcases rank_cases es q with h | h | h <;> simp [h1, h2, h]
theorem over_kid {es : List En} {c q : Bs} (hc : faultP c = 0) (hq : parentP c = q) : overN es (above c) = hidQ es q := by
  rw [above_kid hc hq]
  unfold hidQ
  by_cases h0 : q = []
  · rw [if_pos h0, if_pos h0]; simp [overN]
  · rw [if_neg h0, if_neg h0, over_append]; rfl
/-- What the loop finds of a name is what is seen of its path. -/
theorem come_seen {ls : List (List En)} (hR : ∀ es ∈ ls, Right es) {c q : Bs} (hc : faultP c = 0) (hq : parentP c = q) :
    ∀ n, n ≤ ls.length → ((comeD ls q n).find? fun e => decide (lastP e.path = lastP c)).any (fun e => !decide (e.kind = 3)) = (seenG (seeL ls) c n).isSome
  | 0, _ => by simp [comeD, seenG]
  | n + 1, hn => by
    have ih := come_seen hR hc hq n (by omega)
    obtain ⟨es, he⟩ : ∃ es, ls[n]? = some es := ⟨_, List.getElem?_eq_getElem (by omega)⟩
    have hRi := hR es (List.mem_of_getElem? he)
    have hF := (right_fit.1 hRi).1
    have hcp : c = cpB q (lastP c) := by have := path_last hc; rw [hq] at this; exact this
    have hkid : ∀ x ∈ kidsE es q, lastP x.path = lastP c → x.path = c := fun x hx hl => by
      have hx' := List.mem_filter.1 hx
      have := kid_path (hF.path hx'.1) (of_decide_eq_true hx'.2)
      rw [hl, ← hcp] at this
      exact this
    cases hf : findE es c with
    | none =>
      have hno : (kidsE es q).find? (fun e => decide (lastP e.path = lastP c)) = none := by
        rw [List.find?_eq_none]
        intro x hx hl
        have h1 := hkid x hx (of_decide_eq_true hl)
        have h2 := rise_find hRi.rise (List.mem_filter.1 hx).1
        rw [h1, hf] at h2
        cases h2
      by_cases h2 : hidQ es q = 2
      · rw [come_two he h2, seen_up he hRi hf (by rw [over_kid hc hq, h2]; decide)]; rfl
      · by_cases h1 : hidQ es q = 1
        · rw [come_one he h1, hno, seen_up he hRi hf (by rw [over_kid hc hq, h1]; decide)]; rfl
        · have h0 : overN es (above c) = 0 := by
            have := over_kid (es := es) hc hq
            rcases over_cases es (above c) with h | h | h
            · exact h
            · rw [h] at this; exact absurd this.symm h1
            · rw [h] at this; exact absurd this.symm h2
          rw [come_on he h2 h1, List.find?_append, hno, Option.none_or, seen_on he hRi hf h0]
          exact ih
    | some e =>
      obtain ⟨hem, hep⟩ := find_mem hf
      have h2 : hidQ es q ≠ 2 := by rw [← over_kid hc hq]; exact over_there hRi hc hf
      have hek : e ∈ kidsE es q := List.mem_filter.2 ⟨hem, decide_eq_true (by rw [hep]; exact hq)⟩
      have hfi : (kidsE es q).find? (fun x => decide (lastP x.path = lastP c)) = some e := by
        have : ((kidsE es q).find? (fun x => decide (lastP x.path = lastP c))).isSome = true := by
          rw [List.find?_isSome]; exact ⟨e, hek, decide_eq_true (by rw [hep])⟩
        obtain ⟨y, hy⟩ := Option.isSome_iff_exists.1 this
        have hy1 := List.mem_of_find?_eq_some hy
        have hy4 := List.find?_some hy
        have hy2 := hkid y hy1 (by simpa using hy4)
        have hy3 := rise_find hRi.rise (List.mem_filter.1 hy1).1
        rw [hy2, hf] at hy3
        rw [hy, ← hy3]
      have hpre : ∃ r, comeD ls q (n + 1) = kidsE es q ++ r := by
        by_cases h1 : hidQ es q = 1
        · exact ⟨[], by rw [come_one he h1, List.append_nil]⟩
        · exact ⟨_, come_on he h2 h1⟩
      obtain ⟨r, hr⟩ := hpre
      rw [hr, List.find?_append, hfi, seen_hit (by rw [seeL_at he]; exact hf)]
      by_cases h3 : e.kind = 3 <;> simp [h3]
/-- The names that the model tells are those of the tree. -/
theorem come_names {ls : List (List En)} (hR : ∀ es ∈ ls, Right es) (h4 : ls.length ≤ 4) (q : Bs) : (runN (comeD ls q ls.length)).2 = namesE (allE ls) q := by
  obtain ⟨-, h2, h3, -⟩ := runN_says (comeD ls q ls.length)
  have hF := rights_fit hR
  have hfa := all_fit hF
  refine riseS_ext h3 (names_rise hfa.fit q) (fun x => ?_)
  have key : ∀ c, faultP c = 0 → parentP c = q → lastP c = x → (x ∈ (runN (comeD ls q ls.length)).2 ↔ (findE (allE ls) c).isSome = true) := fun c hc hq hx => by
    rw [h2, ← hx, come_seen hR hc hq ls.length (Nat.le_refl _), all_find hF h4 hc]
    have e1 : seenG (seeL ls) c ls.length = seenL ls c := (seen_over h4).symm
    rw [e1]
    unfold sawE
    cases hs : seenL ls c with
    | none => simp
    | some k =>
      obtain ⟨-, e, he, -⟩ := seen_some (show seenG (seeL ls) c 4 = some k from hs)
      simp [he]
  constructor
  · intro hx
    have hx' := (h2 x).1 hx
    cases hf : (comeD ls q ls.length).find? fun e => decide (lastP e.path = x) with
    | none => rw [hf] at hx'; simp at hx'
    | some e =>
      have hem := List.mem_of_find?_eq_some hf
      have hel0 := List.find?_some hf
      have hel : lastP e.path = x := by simpa using hel0
      obtain ⟨hpq, es, hes, hee⟩ := come_mem hem
      have hpf := (hF es hes).path hee
      obtain ⟨y, hy⟩ := Option.isSome_iff_exists.1 ((key e.path hpf hpq hel).1 hx)
      obtain ⟨hym, hyp⟩ := find_mem hy
      exact List.mem_map.2 ⟨y, List.mem_filter.2 ⟨hym, decide_eq_true (by rw [hyp]; exact hpq)⟩, by rw [hyp]; exact hel⟩
  · intro hx
    obtain ⟨y, hy, hyl⟩ := List.mem_map.1 hx
    obtain ⟨hym, hyp⟩ := List.mem_filter.1 hy
    exact (key y.path (hfa.fit.path hym) (of_decide_eq_true hyp) hyl).2 (by rw [rise_find hfa.fit.rise hym]; rfl)
end Go.Proofs.YtjkmbicedbdifaaGreat
