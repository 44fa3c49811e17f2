/-
  Texts put together: SnpL SnpM SnpN SnpO SeeG SeeH OvrP SnpR LayT IteR.
-/
import Derived.Test.YtolnlfnndnpiiaaGreatKGrows7
import Derived.Test.YtolnlfnndnpiiaaGreatKGrows6
import Derived.Test.YtolnlfnndnpiiaaGreatKGrows4
import Derived.Shelf.SlMaps.Clone
import Derived.Lib.SlMapFilter
import Derived.RangeFuncGives
import Derived.Shelf.AbstractIn
import Derived.RangeFuncSeq
import Derived.Sort.MapsRangeIn
import Derived.OwnWalkIn
import Derived.TacticsInMore
import Derived.RegionIn
import Derived.LoopNIn
import Derived.LoopIn
import Derived.Maps.AppendAt
import Derived.Shelf.Abstract
import Derived.Shelf.SlIter.Collect
import Derived.Shelf.SlSortCmp.WholeK
import Derived.Shelf.Small.Bits
import Derived.Ground.SlsfProg
import Derived.Test.YtolnlfnndnpiiaaGreatProg
namespace Go.Proofs.YtolnlfnndnpiiaaGreat
set_option linter.unusedVariables false

structure Sn where
  name : Bs
  parent : Bs
  kind : Int
  lease : Bool
  layer : List En

def nmOk (b : Bs) : Bool := plain b && decide (b.length ≤ 4)
theorem nmOk_ne {b : Bs} (h : nmOk b = true) : b ≠ [] := fun e => by subst e; simp [nmOk, plain] at h
def atS (l : List Sn) (nm : Bs) : Option Sn := l.find? fun s => s.name == nm
theorem atS_some {l : List Sn} {nm : Bs} {s : Sn} (h : atS l nm = some s) : s ∈ l ∧ s.name = nm := ⟨List.mem_of_find?_eq_some h, by simpa using List.find?_some h⟩
theorem atS_none {l : List Sn} {nm : Bs} : atS l nm = none ↔ ∀ s ∈ l, s.name ≠ nm := by simp [atS]
def lwQ (prev : Option Sn) (s : Sn) : Bool :=
  match prev with
  | none => false
  | some q => Op.bytesLess s.name q.name || (s.name == q.name)
def oneS (prev : Option Sn) (s : Sn) : Int := if nmOk s.name then (if (s.kind == 1 || s.kind == 2) && !lwQ prev s then layFaultP s.layer else 1) else 5
def headS : Option Sn → List Sn → Int
  | _, [] => 0
  | prev, s :: r => if oneS prev s = 0 then headS (some s) r else oneS prev s
def lineS (l : List Sn) : Nat → Option Sn → List Sn
  | 0, _ => []
  | _ + 1, none => []
  | f + 1, some s => s :: lineS l f (atS l s.parent)
theorem lineS_none (l : List Sn) (f : Nat) : lineS l f none = [] := by cases f <;> rfl
theorem lineS_len (l : List Sn) : ∀ (f : Nat) (o : Option Sn), (lineS l f o).length ≤ f
  | 0, _ => by simp [lineS]
  | f + 1, none => by simp [lineS]
  | f + 1, some s => by have := lineS_len l f (atS l s.parent); simp [lineS]; omega
theorem lineS_more (l : List Sn) : ∀ (f : Nat) (o : Option Sn) (g : Nat), (lineS l f o).length < f → f ≤ g → lineS l g o = lineS l f o
  | 0, _, g, h, _ => by simp at h
  | f + 1, none, g, _, _ => by rw [lineS_none, lineS_none]
  | f + 1, some s, 0, _, hg => by omega
  | f + 1, some s, g + 1, h, hg => by
    simp only [lineS, List.length_cons] at h ⊢
    rw [lineS_more l f (atS l s.parent) g (by omega) (by omega)]
theorem lineS_mem {l : List Sn} : ∀ {f : Nat} {o : Option Sn}, (∀ s, o = some s → s ∈ l) → ∀ x ∈ lineS l f o, x ∈ l
  | 0, _, _, x, hx => by simp [lineS] at hx
  | f + 1, none, _, x, hx => by simp [lineS] at hx
  | f + 1, some s, h, x, hx => by
    simp only [lineS, List.mem_cons] at hx
    rcases hx with rfl | hx
    · exact h _ rfl
    · exact lineS_mem (fun y hy => (atS_some hy).1) x hx
def standS (l : List Sn) (s : Sn) : Int :=
  if s.parent = [] then 0 else match atS l s.parent with
  | none => 4
  | some p => if p.kind = 1 then 10 else if 4 < (lineS l 5 (some s)).length then 2 else 0
def standsS (l : List Sn) : List Sn → Int
  | [] => 0
  | s :: r => if standS l s = 0 then standsS l r else standS l s
def snF (l : List Sn) : Int := if 10 < l.length then 2 else if headS none l = 0 then standsS l l else headS none l
def RiseN (l : List Sn) : Prop := l.Pairwise fun x y => Op.bytesLess x.name y.name = true
theorem lwQ_some {q s : Sn} (h : lwQ (some q) s = false) : Op.bytesLess q.name s.name = true := by
  simp only [lwQ, Bool.or_eq_false_iff, beq_eq_false_iff_ne] at h
  exact bl_total _ _ h.1 h.2
theorem lwQ_of {q s : Sn} (h : Op.bytesLess q.name s.name = true) : lwQ (some q) s = false := by
  simp only [lwQ, Bool.or_eq_false_iff, beq_eq_false_iff_ne]
  exact ⟨bl_asymm h, fun e => bl_ne h e.symm⟩
def OwnOk (s : Sn) : Prop := nmOk s.name = true ∧ (s.kind = 1 ∨ s.kind = 2) ∧ layFaultP s.layer = 0
theorem oneS_zero {prev : Option Sn} {s : Sn} : oneS prev s = 0 ↔ OwnOk s ∧ lwQ prev s = false := by
  unfold oneS OwnOk
  by_cases h1 : nmOk s.name = true
  · rw [if_pos h1]
    by_cases h2 : ((s.kind == 1 || s.kind == 2) && !lwQ prev s) = true
    · rw [if_pos h2]
      simp only [Bool.and_eq_true, Bool.or_eq_true, beq_iff_eq, Bool.not_eq_true'] at h2
      exact ⟨fun h => ⟨⟨h1, h2.1, h⟩, h2.2⟩, fun h => h.1.2.2⟩
    · rw [if_neg h2]
      refine ⟨fun h => absurd h (by decide), fun h => absurd ?_ h2⟩
      simp only [Bool.and_eq_true, Bool.or_eq_true, beq_iff_eq, Bool.not_eq_true']
      exact ⟨h.1.2.1, h.2⟩
  · rw [if_neg h1]
    exact ⟨fun h => absurd h (by decide), fun h => absurd h.1.1 h1⟩
theorem headS_zero : ∀ {l : List Sn} {prev : Option Sn}, headS prev l = 0 ↔ (∀ s ∈ l, OwnOk s) ∧ RiseN l ∧ (∀ q s, prev = some q → s ∈ l → Op.bytesLess q.name s.name = true)
  | [], prev => by simp [headS, RiseN]
  | s :: r, prev => by
    have ih := @headS_zero r (some s)
    unfold headS
    by_cases h : oneS prev s = 0
    · rw [if_pos h, ih]
      obtain ⟨h1, h2⟩ := oneS_zero.1 h
      constructor
      · rintro ⟨a1, a2, a3⟩
        refine ⟨fun x hx => ?_, List.pairwise_cons.2 ⟨fun y hy => a3 s y rfl hy, a2⟩, fun q x hq hx => ?_⟩
        · rcases List.mem_cons.1 hx with rfl | hx
          · exact h1
          · exact a1 x hx
        · subst hq
          rcases List.mem_cons.1 hx with rfl | hx
          · exact lwQ_some h2
          · exact bl_trans _ _ _ (lwQ_some h2) (a3 s x rfl hx)
      · rintro ⟨a1, a2, a3⟩
        obtain ⟨b1, b2⟩ := List.pairwise_cons.1 a2
        exact ⟨fun x hx => a1 x (List.mem_cons_of_mem _ hx), b2, fun q x hq hx => by cases hq; exact b1 x hx⟩
    · rw [if_neg h]
      refine ⟨fun e => absurd e h, fun ⟨a1, a2, a3⟩ => absurd (oneS_zero.2 ⟨a1 s (List.mem_cons_self ..), ?_⟩) h⟩
      cases prev with
      | none => rfl
      | some q => exact lwQ_of (a3 q s rfl (List.mem_cons_self ..))
def Stands (l : List Sn) (s : Sn) : Prop := s.parent = [] ∨ ∃ p, atS l s.parent = some p ∧ p.kind ≠ 1 ∧ (lineS l 5 (some s)).length ≤ 4
theorem standS_zero {l : List Sn} {s : Sn} : standS l s = 0 ↔ Stands l s := by
  unfold standS Stands
  by_cases h : s.parent = []
  · simp [h]
  · rw [if_neg h]
    cases hp : atS l s.parent with
    | none => simp [h]
    | some p =>
      simp only [h, false_or, Option.some.injEq, exists_eq_left']
      by_cases h1 : p.kind = 1
      · rw [if_pos h1]; simp [h1]
      · rw [if_neg h1]
        by_cases h2 : 4 < (lineS l 5 (some s)).length
        · rw [if_pos h2]; exact ⟨fun e => absurd e (by decide), fun e => by omega⟩
        · rw [if_neg h2]; exact ⟨fun _ => ⟨h1, by omega⟩, fun _ => rfl⟩
theorem standsS_zero {l : List Sn} : ∀ {r : List Sn}, standsS l r = 0 ↔ ∀ s ∈ r, Stands l s
  | [] => by simp [standsS]
  | s :: r => by
    unfold standsS
    by_cases h : standS l s = 0
    · rw [if_pos h, standsS_zero]
      have := standS_zero.1 h
      simp [this]
    · rw [if_neg h]
      refine ⟨fun e => absurd e h, fun e => absurd (standS_zero.2 (e s (List.mem_cons_self ..))) h⟩
structure RightS (l : List Sn) : Prop where
  len : l.length ≤ 10
  own : ∀ s ∈ l, OwnOk s
  rise : RiseN l
  stand : ∀ s ∈ l, Stands l s
theorem snF_zero {l : List Sn} : snF l = 0 ↔ RightS l := by
  unfold snF
  by_cases h : 10 < l.length
  · rw [if_pos h]; exact ⟨fun e => absurd e (by decide), fun e => by have := e.len; omega⟩
  · rw [if_neg h]
    by_cases h1 : headS none l = 0
    · rw [if_pos h1, standsS_zero]
      obtain ⟨a1, a2, -⟩ := headS_zero.1 h1
      exact ⟨fun e => ⟨by omega, a1, a2, e⟩, fun e => e.stand⟩
    · rw [if_neg h1]
      exact ⟨fun e => absurd e h1, fun e => absurd (headS_zero.2 ⟨e.own, e.rise, fun q s hq => by cases hq⟩) h1⟩
theorem RightS.line {l : List Sn} (h : RightS l) {s : Sn} (hs : s ∈ l) : (lineS l 5 (some s)).length ≤ 4 := by
  rcases h.stand s hs with h1 | ⟨p, -, -, h2⟩
  · have : atS l s.parent = none := by
      rw [h1]
      exact atS_none.2 fun x hx e => nmOk_ne (h.own x hx).1 e
    simp only [lineS, this, List.length_cons]
    simp
  · exact h2
def chainS (l : List Sn) (s : Sn) : List (List En) := ((lineS l 5 (some s)).map Sn.layer).reverse
theorem chainS_len {l : List Sn} (h : RightS l) {s : Sn} (hs : s ∈ l) : (chainS l s).length ≤ 4 := by
  unfold chainS
  rw [List.length_reverse, List.length_map]
  exact h.line hs
theorem chainS_fit {l : List Sn} (h : RightS l) {s : Sn} (hs : s ∈ l) : layersP (chainS l s) = 0 := by
  refine layersP_zero.2 ⟨chainS_len h hs, fun es he => ?_⟩
  unfold chainS at he
  rw [List.mem_reverse, List.mem_map] at he
  obtain ⟨x, hx, rfl⟩ := he
  have := (h.own x (lineS_mem (fun y hy => by cases hy; exact hs) x hx)).2.2
  exact right_P.1 this
theorem atS_mem {l : List Sn} (h : RiseN l) {s : Sn} (hs : s ∈ l) : atS l s.name = some s := by
  induction l with
  | nil => cases hs
  | cons x r ih =>
    obtain ⟨b1, b2⟩ := List.pairwise_cons.1 h
    unfold atS
    rcases List.mem_cons.1 hs with rfl | hs
    · simp
    · have hne : x.name ≠ s.name := bl_ne (b1 s hs)
      rw [List.find?_cons_of_neg (by simpa using hne)]
      exact ih b2 hs
end Go.Proofs.YtolnlfnndnpiiaaGreat

namespace Go.Proofs.YtolnlfnndnpiiaaGreat
set_option linter.unusedVariables false

def putN (l : List Sn) (s : Sn) : List Sn := l.filter (fun x => Op.bytesLess x.name s.name) ++ s :: l.filter (fun x => Op.bytesLess s.name x.name)
theorem mem_putN {l : List Sn} {s x : Sn} : x ∈ putN l s ↔ x = s ∨ (x ∈ l ∧ x.name ≠ s.name) := by
  unfold putN
  simp only [List.mem_append, List.mem_filter, List.mem_cons]
  constructor
  · rintro (⟨h1, h2⟩ | rfl | ⟨h1, h2⟩)
    · exact .inr ⟨h1, bl_ne h2⟩
    · exact .inl rfl
    · exact .inr ⟨h1, fun e => bl_ne h2 e.symm⟩
  · rintro (rfl | ⟨h1, h2⟩)
    · exact .inr (.inl rfl)
    · cases hb : Op.bytesLess x.name s.name with
      | true => exact .inl ⟨h1, rfl⟩
      | false => exact .inr (.inr ⟨h1, bl_total _ _ hb h2⟩)
theorem putN_rise {l : List Sn} (h : RiseN l) (s : Sn) : RiseN (putN l s) := by
  unfold RiseN putN
  rw [List.pairwise_append]
  refine ⟨h.sublist List.filter_sublist, List.pairwise_cons.2 ⟨fun y hy => (List.mem_filter.1 hy).2, h.sublist List.filter_sublist⟩, fun x hx y hy => ?_⟩
  have h1 := (List.mem_filter.1 hx).2
  rcases List.mem_cons.1 hy with rfl | hy
  · exact h1
  · exact bl_trans _ _ _ h1 (List.mem_filter.1 hy).2
theorem atS_iff {l : List Sn} (h : RiseN l) {nm : Bs} {s : Sn} : atS l nm = some s ↔ s ∈ l ∧ s.name = nm := ⟨atS_some, fun ⟨h1, h2⟩ => by rw [← h2]; exact atS_mem h h1⟩
theorem atS_put {l : List Sn} (h : RiseN l) (s : Sn) (nm : Bs) : atS (putN l s) nm = if nm = s.name then some s else atS l nm := by
  by_cases e : nm = s.name
  · rw [if_pos e]
    exact (atS_iff (putN_rise h s)).2 ⟨mem_putN.2 (.inl rfl), e.symm⟩
  · rw [if_neg e]
    cases hx : atS l nm with
    | none =>
      rw [atS_none] at hx ⊢
      intro x hx'
      rcases mem_putN.1 hx' with rfl | ⟨h1, -⟩
      · exact fun e2 => e e2.symm
      · exact hx x h1
    | some x =>
      obtain ⟨h1, h2⟩ := atS_some hx
      exact (atS_iff (putN_rise h s)).2 ⟨mem_putN.2 (.inr ⟨h1, by rw [h2]; exact e⟩), h2⟩
theorem filter_three : ∀ (l : List Sn) (s : Sn), (l.filter (fun x => Op.bytesLess x.name s.name)).length + (l.filter (fun x => Op.bytesLess s.name x.name)).length + (l.filter (fun x => x.name == s.name)).length = l.length
  | [], s => rfl
  | x :: r, s => by
    have ih := filter_three r s
    by_cases e : x.name = s.name
    · have h1 : Op.bytesLess x.name s.name = false := by rw [e]; exact bl_irrefl _
      have h2 : Op.bytesLess s.name x.name = false := by rw [e]; exact bl_irrefl _
      have h3 : (x.name == s.name) = true := by simpa using e
      simp only [List.filter_cons, h1, h2, h3, Bool.false_eq_true, if_false, if_true, List.length_cons]
      omega
    · have h3 : (x.name == s.name) = false := by simpa using e
      cases hb : Op.bytesLess x.name s.name with
      | true =>
        have h2 := bl_asymm hb
        simp only [List.filter_cons, hb, h2, h3, Bool.false_eq_true, if_false, if_true, List.length_cons]
        omega
      | false =>
        have h2 := bl_total _ _ hb e
        simp only [List.filter_cons, hb, h2, h3, Bool.false_eq_true, if_false, if_true, List.length_cons]
        omega
theorem putN_new {l : List Sn} {s : Sn} (h : atS l s.name = none) : (putN l s).length = l.length + 1 := by
  have h1 := filter_three l s
  have h2 : l.filter (fun x => x.name == s.name) = [] := List.filter_eq_nil_iff.2 fun x hx => by simpa using atS_none.1 h x hx
  rw [h2] at h1
  simp only [List.length_nil] at h1
  simp only [putN, List.length_append, List.length_cons]
  omega
theorem one_name : ∀ {l : List Sn}, RiseN l → ∀ {t : Sn}, t ∈ l → (l.filter (fun x => x.name == t.name)).length = 1
  | [], _, t, ht => by cases ht
  | x :: r, h, t, ht => by
    obtain ⟨b1, b2⟩ := List.pairwise_cons.1 h
    rcases List.mem_cons.1 ht with rfl | ht
    · have : r.filter (fun x => x.name == t.name) = [] := List.filter_eq_nil_iff.2 fun y hy => by
        have := bl_ne (b1 y hy)
        simpa using fun e => this e.symm
      simp [this]
    · have h3 : (x.name == t.name) = false := by simpa using bl_ne (b1 t ht)
      simp only [List.filter_cons, h3, Bool.false_eq_true, if_false]
      exact one_name b2 ht
theorem putN_old {l : List Sn} (h : RiseN l) {s t : Sn} (ht : atS l s.name = some t) : (putN l s).length = l.length := by
  obtain ⟨h1, h2⟩ := atS_some ht
  have h3 := filter_three l s
  have h4 := one_name h h1
  rw [h2] at h4
  rw [h4] at h3
  simp only [putN, List.length_append, List.length_cons]
  omega
theorem putN_perm (l : List Sn) (s : Sn) : (l.filter (fun x => !(x.name == s.name)) ++ [s]).Perm (putN l s) := by
  have key : ∀ r : List Sn, (r.filter (fun x => !(x.name == s.name))).Perm (r.filter (fun x => Op.bytesLess x.name s.name) ++ r.filter (fun x => Op.bytesLess s.name x.name)) := by
    intro r
    induction r with
    | nil => exact List.Perm.nil
    | cons x r ih =>
      by_cases e : x.name = s.name
      · have h1 : Op.bytesLess x.name s.name = false := by rw [e]; exact bl_irrefl _
        have h2 : Op.bytesLess s.name x.name = false := by rw [e]; exact bl_irrefl _
        have h3 : (!(x.name == s.name)) = false := by simpa using e
        simpa only [List.filter_cons, h1, h2, h3, Bool.false_eq_true, if_false] using ih
      · have h3 : (!(x.name == s.name)) = true := by simpa using e
        cases hb : Op.bytesLess x.name s.name with
        | true =>
          have h2 := bl_asymm hb
          simp only [List.filter_cons, hb, h2, h3, Bool.false_eq_true, if_false, if_true, List.cons_append]
          exact ih.cons x
        | false =>
          have h2 := bl_total _ _ hb e
          simp only [List.filter_cons, hb, h2, h3, Bool.false_eq_true, if_false, if_true]
          exact (ih.cons x).trans List.perm_middle.symm
  unfold putN
  refine (List.perm_append_singleton _ _).trans ?_
  exact ((key l).cons s).trans List.perm_middle.symm

theorem line_put {l : List Sn} (h : RiseN l) {s t : Sn} (ht : atS l s.name = some t) (hp : s.parent = t.parent) : ∀ (f : Nat) (o : Option Sn), (∀ x, o = some x → x ∈ l) → lineS (putN l s) f (o.map fun x => if x.name = s.name then s else x) = (lineS l f o).map fun x => if x.name = s.name then s else x
  | 0, o, _ => by simp [lineS]
  | f + 1, none, _ => by simp [lineS]
  | f + 1, some x, hx => by
    have hxl := hx x rfl
    have hpar : (if x.name = s.name then s else x).parent = x.parent := by
      split
      · rename_i e
        have : t = x := by
          have h1 := atS_mem h hxl
          rw [e, ht] at h1
          exact Option.some.inj h1
        rw [hp, this]
      · rfl
    simp only [Option.map_some, lineS, List.map_cons, List.cons.injEq, true_and]
    rw [hpar, atS_put h]
    have := line_put h ht hp f (atS l x.parent) (fun y hy => (atS_some hy).1)
    rw [← this]
    congr 1
    by_cases e : x.parent = s.name
    · rw [if_pos e, e, ht]
      simp [(atS_some ht).2]
    · rw [if_neg e]
      cases hq : atS l x.parent with
      | none => rfl
      | some y =>
        have := (atS_some hq).2
        simp [this, e]
theorem line_new {l : List Sn} (h : RiseN l) {s : Sn} (hn : ∀ x ∈ l, x.parent ≠ s.name) : ∀ (f : Nat) (o : Option Sn), (∀ x, o = some x → x ∈ l) → lineS (putN l s) f o = lineS l f o
  | 0, o, _ => by simp [lineS]
  | f + 1, none, _ => by simp [lineS]
  | f + 1, some x, hx => by
    simp only [lineS, List.cons.injEq, true_and]
    rw [atS_put h, if_neg (hn x (hx x rfl))]
    exact line_new h hn f _ (fun y hy => (atS_some hy).1)
theorem RightS.no_child {l : List Sn} (h : RightS l) {nm : Bs} (hn : atS l nm = none) (h0 : nm ≠ []) : ∀ x ∈ l, x.parent ≠ nm := fun x hx e => by
  rcases h.stand x hx with h1 | ⟨p, h1, -, -⟩
  · exact h0 (e ▸ h1)
  · rw [e, hn] at h1; cases h1
theorem right_new {l : List Sn} (h : RightS l) {s : Sn} (ho : OwnOk s) (hn : atS l s.name = none) (hs : Stands l s) (hl : l.length < 10) (hself : s.parent ≠ s.name) : RightS (putN l s) := by
  have hnc := h.no_child hn (nmOk_ne ho.1)
  refine ⟨by rw [putN_new hn]; omega, fun x hx => ?_, putN_rise h.rise s, fun x hx => ?_⟩
  · rcases mem_putN.1 hx with rfl | ⟨h1, -⟩
    · exact ho
    · exact h.own x h1
  · rcases mem_putN.1 hx with rfl | ⟨h1, -⟩
    · rcases hs with e | ⟨p, e1, e2, e3⟩
      · exact .inl e
      · refine .inr ⟨p, by rw [atS_put h.rise, if_neg hself]; exact e1, e2, ?_⟩
        simp only [lineS] at e3 ⊢
        rw [atS_put h.rise, if_neg hself, line_new h.rise hnc 4 _ (fun y hy => (atS_some hy).1)]
        exact e3
    · rcases h.stand x h1 with e | ⟨p, e1, e2, e3⟩
      · exact .inl e
      · refine .inr ⟨p, by rw [atS_put h.rise, if_neg (hnc x h1)]; exact e1, e2, ?_⟩
        rw [line_new h.rise hnc 5 _ (fun y hy => by cases hy; exact h1)]
        exact e3
theorem right_turn {l : List Sn} (h : RightS l) {s t : Sn} (ho : OwnOk s) (ht : atS l s.name = some t) (hp : s.parent = t.parent) (hk : t.kind ≠ 1 → s.kind ≠ 1) : RightS (putN l s) := by
  obtain ⟨htl, htn⟩ := atS_some ht
  have hline : ∀ x ∈ l, lineS (putN l s) 5 (some (if x.name = s.name then s else x)) = (lineS l 5 (some x)).map fun x => if x.name = s.name then s else x := fun x hx => line_put h.rise ht hp 5 (some x) (fun y hy => by cases hy; exact hx)
  have hst : ∀ x ∈ l, Stands (putN l s) (if x.name = s.name then s else x) := by
    intro x hx
    have hpar : (if x.name = s.name then s else x).parent = x.parent := by
      split
      · rename_i e
        have : t = x := by
          have h1 := atS_mem h.rise hx
          rw [e, ht] at h1
          exact Option.some.inj h1
        rw [hp, this]
      · rfl
    rcases h.stand x hx with e | ⟨p, e1, e2, e3⟩
    · exact .inl (by rw [hpar]; exact e)
    · refine .inr ?_
      rw [hpar, hline x hx, List.length_map, atS_put h.rise]
      by_cases e : x.parent = s.name
      · rw [if_pos e]
        rw [e, ht] at e1
        cases e1
        exact ⟨s, rfl, hk e2, e3⟩
      · rw [if_neg e]
        exact ⟨p, e1, e2, e3⟩
  refine ⟨by rw [putN_old h.rise ht]; exact h.len, fun x hx => ?_, putN_rise h.rise s, fun x hx => ?_⟩
  · rcases mem_putN.1 hx with rfl | ⟨h1, -⟩
    · exact ho
    · exact h.own x h1
  · rcases mem_putN.1 hx with rfl | ⟨h1, h2⟩
    · have := hst t htl
      rwa [if_pos htn] at this
    · have := hst x h1
      rwa [if_neg h2] at this
def offN (l : List Sn) (nm : Bs) : List Sn := l.filter fun x => !(x.name == nm)
theorem mem_offN {l : List Sn} {nm : Bs} {x : Sn} : x ∈ offN l nm ↔ x ∈ l ∧ x.name ≠ nm := by simp [offN]
theorem offN_rise {l : List Sn} (h : RiseN l) (nm : Bs) : RiseN (offN l nm) := h.sublist List.filter_sublist
theorem atS_off {l : List Sn} (h : RiseN l) {nm k : Bs} (hk : k ≠ nm) : atS (offN l nm) k = atS l k := by
  cases hx : atS l k with
  | none =>
    rw [atS_none] at hx ⊢
    exact fun x hx' => hx x (mem_offN.1 hx').1
  | some x =>
    obtain ⟨h1, h2⟩ := atS_some hx
    exact (atS_iff (offN_rise h nm)).2 ⟨mem_offN.2 ⟨h1, by rw [h2]; exact hk⟩, h2⟩
theorem line_off {l : List Sn} (h : RiseN l) {nm : Bs} (hn : ∀ x ∈ l, x.parent ≠ nm) : ∀ (f : Nat) (o : Option Sn), (∀ x, o = some x → x ∈ l) → lineS (offN l nm) f o = lineS l f o
  | 0, o, _ => by simp [lineS]
  | f + 1, none, _ => by simp [lineS]
  | f + 1, some x, hx => by
    simp only [lineS, List.cons.injEq, true_and]
    rw [atS_off h (hn x (hx x rfl))]
    exact line_off h hn f _ (fun y hy => (atS_some hy).1)
theorem right_off {l : List Sn} (h : RightS l) {nm : Bs} (hn : ∀ x ∈ l, x.parent ≠ nm) : RightS (offN l nm) := by
  refine ⟨Nat.le_trans (List.length_filter_le ..) h.len, fun x hx => h.own x (mem_offN.1 hx).1, offN_rise h.rise nm, fun x hx => ?_⟩
  obtain ⟨h1, h2⟩ := mem_offN.1 hx
  rcases h.stand x h1 with e | ⟨p, e1, e2, e3⟩
  · exact .inl e
  · refine .inr ⟨p, by rw [atS_off h.rise (hn x h1)]; exact e1, e2, ?_⟩
    rw [line_off h.rise hn 5 _ (fun y hy => by cases hy; exact h1)]
    exact e3
end Go.Proofs.YtolnlfnndnpiiaaGreat

namespace Go.Proofs.YtolnlfnndnpiiaaGreat
set_option linter.unusedVariables false

def growR (l : List Sn) (s : Sn) : Int := if nmOk s.name then (if (atS l s.name).isSome then 7 else if standS l s = 0 then (if 10 ≤ l.length then 2 else 0) else standS l s) else 5
theorem growR_zero {l : List Sn} {s : Sn} : growR l s = 0 ↔ nmOk s.name = true ∧ atS l s.name = none ∧ Stands l s ∧ l.length < 10 := by
  unfold growR
  by_cases h1 : nmOk s.name = true
  · rw [if_pos h1]
    cases h2 : atS l s.name with
    | some t => simp
    | none =>
      simp only [Option.isSome_none, Bool.false_eq_true, if_false, h1, true_and]
      by_cases h3 : standS l s = 0
      · rw [if_pos h3]
        by_cases h4 : 10 ≤ l.length
        · rw [if_pos h4]; exact ⟨fun e => absurd e (by decide), fun e => by omega⟩
        · rw [if_neg h4]; exact ⟨fun _ => ⟨standS_zero.1 h3, by omega⟩, fun _ => rfl⟩
      · rw [if_neg h3]; exact ⟨fun e => absurd e h3, fun e => absurd (standS_zero.2 e.1) h3⟩
  · rw [if_neg h1]; exact ⟨fun e => absurd e (by decide), fun e => absurd e.1 h1⟩
theorem grow_self {l : List Sn} {s : Sn} (h : growR l s = 0) : s.parent ≠ s.name := fun e => by
  obtain ⟨h1, h2, h3, -⟩ := growR_zero.1 h
  rcases h3 with h3 | ⟨p, h3, -⟩
  · rw [h3] at e; exact nmOk_ne h1 e.symm
  · rw [e, h2] at h3; cases h3
theorem grow_right {l : List Sn} (hr : RightS l) {s : Sn} (h : growR l s = 0) (hk : s.kind = 1 ∨ s.kind = 2) (hl : layFaultP s.layer = 0) : RightS (putN l s) := by
  obtain ⟨h1, h2, h3, h4⟩ := growR_zero.1 h
  exact right_new hr ⟨h1, hk, hl⟩ h2 h3 h4 (grow_self h)
theorem grow_at {l : List Sn} (hr : RightS l) (s : Sn) : atS (putN l s) s.name = some s := by rw [atS_put hr.rise, if_pos rfl]
theorem grow_chain_none {l : List Sn} (hr : RightS l) {s : Sn} (h : growR l s = 0) (hp : s.parent = []) : chainS (putN l s) s = [s.layer] := by
  obtain ⟨h1, -, -, -⟩ := growR_zero.1 h
  have e : atS l [] = none := atS_none.2 fun x hx e => nmOk_ne (hr.own x hx).1 e
  unfold chainS
  simp only [lineS]
  rw [hp, atS_put hr.rise, if_neg (fun e => nmOk_ne h1 e.symm), e, lineS_none]
  rfl
theorem grow_chain_on {l : List Sn} (hr : RightS l) {s p : Sn} (h : growR l s = 0) (hp : atS l s.parent = some p) : chainS (putN l s) s = chainS l p ++ [s.layer] := by
  obtain ⟨h1, h2, h3, -⟩ := growR_zero.1 h
  have hl : (lineS l 5 (some s)).length ≤ 4 := by
    rcases h3 with h3 | ⟨p', h3, -, h4⟩
    · have e : atS l [] = none := atS_none.2 fun x hx e => nmOk_ne (hr.own x hx).1 e
      rw [h3, e] at hp; cases hp
    · exact h4
  simp only [lineS, hp, List.length_cons] at hl
  have h4 := lineS_more l 4 (some p) 5 (by simp only [lineS, List.length_cons]; omega) (by omega)
  unfold chainS
  rw [h4]
  conv => lhs; unfold lineS
  rw [atS_put hr.rise, if_neg (grow_self h), hp, line_new hr.rise (hr.no_child h2 (nmOk_ne h1)) 4 _ (fun y hy => by cases hy; exact (atS_some hp).1)]
  simp
theorem grow_bare {l : List Sn} (hr : RightS l) {s : Sn} (h : growR l s = 0) : ∀ x ∈ putN l s, x.parent ≠ s.name := by
  obtain ⟨h1, h2, -, -⟩ := growR_zero.1 h
  intro x hx
  rcases mem_putN.1 hx with rfl | ⟨hx, -⟩
  · exact grow_self h
  · exact hr.no_child h2 (nmOk_ne h1) x hx
theorem grow_off {l : List Sn} (hr : RightS l) {s : Sn} (h : growR l s = 0) : (offN (putN l s) s.name).length = l.length := by
  obtain ⟨-, h2, -, -⟩ := growR_zero.1 h
  have e1 := putN_new h2
  have e2 := one_name (putN_rise hr.rise s) (t := s) (mem_putN.2 (.inl rfl))
  have e3 : ∀ r : List Sn, (r.filter (fun x => !(x.name == s.name))).length + (r.filter (fun x => x.name == s.name)).length = r.length := by
    intro r
    induction r with
    | nil => rfl
    | cons x r ih =>
      by_cases e : x.name = s.name
      · have hb : (x.name == s.name) = true := by simpa using e
        simp only [List.filter_cons, hb, Bool.not_true, Bool.false_eq_true, if_false, if_true, List.length_cons]
        omega
      · have hb : (x.name == s.name) = false := by simpa using e
        simp only [List.filter_cons, hb, Bool.not_false, Bool.false_eq_true, if_false, if_true, List.length_cons]
        omega
  have e4 := e3 (putN l s)
  unfold offN
  omega
def deepS (l : List Sn) (nm : Bs) : Nat := (lineS l 5 (if nm = [] then none else atS l nm)).length
def growM (l : List Sn) (s : Sn) : Int :=
  if nmOk s.name then (if (atS l s.name).isSome then 7 else
    if s.parent = [] then (if 10 ≤ l.length ∨ 4 ≤ deepS l s.parent then 2 else 0) else match atS l s.parent with
    | none => 4
    | some p => if p.kind = 1 then 10 else if 10 ≤ l.length ∨ 4 ≤ deepS l s.parent then 2 else 0) else 5
theorem grow_same {l : List Sn} (hr : RightS l) (s : Sn) : growM l s = growR l s := by
  unfold growM growR standS
  by_cases h1 : nmOk s.name = true
  · rw [if_pos h1, if_pos h1]
    by_cases h2 : (atS l s.name).isSome = true
    · rw [if_pos h2, if_pos h2]
    · rw [if_neg h2, if_neg h2]
      by_cases h3 : s.parent = []
      · have hd : deepS l s.parent = 0 := by unfold deepS; rw [if_pos h3, lineS_none]; rfl
        rw [if_pos h3, if_pos h3, if_pos rfl, hd]
        simp
      · rw [if_neg h3, if_neg h3]
        cases hp : atS l s.parent with
        | none => simp
        | some p =>
          simp only
          by_cases h4 : p.kind = 1
          · rw [if_pos h4, if_pos h4]; simp
          · rw [if_neg h4, if_neg h4]
            have hpl := hr.line (atS_some hp).1
            have hm := lineS_more l 4 (some p) 5
            have hle := lineS_len l 4 (some p)
            have hd : deepS l s.parent = (lineS l 5 (some p)).length := by unfold deepS; rw [if_neg h3, hp]
            have hs5 : (lineS l 5 (some s)).length = 1 + (lineS l 4 (some p)).length := by
              have e5 : lineS l 5 (some s) = s :: lineS l 4 (atS l s.parent) := rfl
              rw [e5, hp, List.length_cons, Nat.add_comm]
            have hiff : 4 ≤ deepS l s.parent ↔ 4 < (lineS l 5 (some s)).length := by
              rw [hd, hs5]
              by_cases hlt : (lineS l 4 (some p)).length < 4
              · rw [hm hlt (by omega)]; omega
              · have h45 : (lineS l 4 (some p)).length ≤ (lineS l 5 (some p)).length := by
                  by_cases hx : (lineS l 5 (some p)).length < 4
                  · exfalso
                    have : ∀ (f : Nat) (o : Option Sn), (lineS l f o).length ≤ (lineS l (f + 1) o).length := by
                      intro f
                      induction f with
                      | zero => intro o; simp [lineS]
                      | succ f ih =>
                        intro o
                        cases o with
                        | none => simp [lineS]
                        | some y =>
                          have := ih (atS l y.parent)
                          conv => lhs; unfold lineS
                          conv => rhs; unfold lineS
                          simpa using this
                    have h9 : (lineS l 4 (some p)).length ≤ (lineS l 5 (some p)).length := this 4 (some p)
                    omega
                  · omega
                omega
            by_cases h5 : 4 < (lineS l 5 (some s)).length
            · rw [if_pos h5, if_pos (.inr (hiff.2 h5))]; simp
            · rw [if_neg h5, if_pos rfl]
              have : ¬ 4 ≤ deepS l s.parent := fun e => h5 (hiff.1 e)
              simp [this]
  · rw [if_neg h1, if_neg h1]
end Go.Proofs.YtolnlfnndnpiiaaGreat

namespace Go.Proofs.YtolnlfnndnpiiaaGreat
set_option linter.unusedVariables false

def oneM (prev : Option Sn) (s : Sn) : Int := if nmOk s.name then (if (s.kind == 1 || s.kind == 2) && !lwQ prev s then layFault s.layer else 1) else 5
def headM : Option Sn → List Sn → Int
  | _, [] => 0
  | prev, s :: r => if oneM prev s = 0 then headM (some s) r else oneM prev s
def standM (l : List Sn) (s : Sn) : Int :=
  if s.parent = [] then 0 else match atS l s.parent with
  | none => 4
  | some p => if p.kind = 1 then 10 else if 4 < deepS l s.name then 2 else 0
def standsM (l : List Sn) : List Sn → Int
  | [] => 0
  | s :: r => if standM l s = 0 then standsM l r else standM l s
def snM (l : List Sn) : Int := if 10 < l.length then 2 else if headM none l = 0 then standsM l l else headM none l
def GoodS (l : List Sn) : Prop := ∀ s ∈ l, layFault s.layer = layFaultP s.layer
theorem headM_same : ∀ {l : List Sn} (h : GoodS l) (prev : Option Sn), headM prev l = headS prev l
  | [], _, prev => rfl
  | s :: r, h, prev => by
    have h1 : oneM prev s = oneS prev s := by unfold oneM oneS; rw [h s (List.mem_cons_self ..)]
    unfold headM headS
    rw [h1, headM_same (fun x hx => h x (List.mem_cons_of_mem _ hx)) (some s)]
theorem standM_same {l : List Sn} (hr : RiseN l) {s : Sn} (hs : s ∈ l) (hn : nmOk s.name = true) : standM l s = standS l s := by
  have : deepS l s.name = (lineS l 5 (some s)).length := by
    unfold deepS
    rw [if_neg (nmOk_ne hn), atS_mem hr hs]
  unfold standM standS
  rw [this]
  all_goals (cases atS l s.parent <;> rfl)
theorem standsM_same {l : List Sn} (hr : RiseN l) (ho : ∀ s ∈ l, OwnOk s) : ∀ r : List Sn, (∀ s ∈ r, s ∈ l) → standsM l r = standsS l r
  | [], _ => rfl
  | s :: r, h => by
    have hs := h s (List.mem_cons_self ..)
    unfold standsM standsS
    rw [standM_same hr hs (ho s hs).1, standsM_same hr ho r (fun x hx => h x (List.mem_cons_of_mem _ hx))]
theorem snM_same {l : List Sn} (h : GoodS l) : snM l = snF l := by
  unfold snM snF
  rw [headM_same h]
  by_cases h0 : headS none l = 0
  · obtain ⟨a1, a2, -⟩ := headS_zero.1 h0
    rw [standsM_same a2 a1 l (fun _ hx => hx)]
  · rw [if_neg h0, if_neg h0]
def lwQ' (l : List Sn) (s : Sn) : List (List En) := ((lineS l 4 (atS l s.parent)).map Sn.layer).reverse
theorem chain_low (l : List Sn) (s : Sn) : chainS l s = lwQ' l s ++ [s.layer] := by
  unfold chainS lwQ'
  have e5 : lineS l 5 (some s) = s :: lineS l 4 (atS l s.parent) := rfl
  rw [e5]
  simp
end Go.Proofs.YtolnlfnndnpiiaaGreat

namespace Go.Proofs.YtolnlfnndnpiiaaGreat
open Go.RowKit Go.Maps
set_option linter.unusedVariables false
attribute [local go_sem ↓] Go.wp_at_zero Go.wp_at_succ

def askL (ls : List (List En)) (p : Bs) : Int := if layersP ls = 0 then faultP p else layersP ls
theorem askL_right {ls : List (List En)} {p : Bs} (h : askL ls p = 0) : ls.length ≤ 4 ∧ (∀ es ∈ ls, Right es) ∧ faultP p = 0 := by
  unfold askL at h
  split at h
  · rename_i h1
    exact ⟨(layersP_zero.1 h1).1, (layersP_zero.1 h1).2, h⟩
  · rename_i h1; exact absurd h h1
end Go.Proofs.YtolnlfnndnpiiaaGreat

namespace Go.Proofs.YtolnlfnndnpiiaaGreat
open Go.RowKit Go.Maps
set_option linter.unusedVariables false
attribute [local go_sem ↓] Go.wp_at_zero Go.wp_at_succ

def seenL (ls : List (List En)) (p : Bs) : Option Nat := seenG (seeL ls) p 4
theorem seen_some {S : Nat → Bs → Option En} {p : Bs} : ∀ {n k : Nat}, seenG S p n = some k → k < n ∧ ∃ e, S k p = some e ∧ e.kind ≠ 3
  | 0, k, h => by cases h
  | n + 1, k, h => by
    cases hS : S n p with
    | some e =>
      rw [seen_hit hS] at h
      by_cases hk : e.kind = 3
      · rw [if_pos hk] at h; cases h
      · rw [if_neg hk] at h
        cases h
        exact ⟨by omega, e, hS, hk⟩
    | none =>
      cases hh : (above p).any fun q => (S n q).any fun e => !decide (e.kind = 2)
      · rw [seen_down hS hh] at h
        obtain ⟨h1, h2⟩ := seen_some h
        exact ⟨by omega, h2⟩
      · rw [seen_hid hS hh] at h; cases h
theorem seeL_mem {ls : List (List En)} {n : Nat} {p : Bs} {e : En} (h : seeL ls n p = some e) : ∃ es ∈ ls, e ∈ es ∧ e.path = p := by
  unfold seeL at h
  cases hx : ls[n]? with
  | none => rw [hx] at h; cases h
  | some es =>
    rw [hx] at h
    obtain ⟨h1, h2⟩ := find_mem (show findE es p = some e from h)
    exact ⟨es, List.mem_of_getElem? hx, h1, h2⟩
end Go.Proofs.YtolnlfnndnpiiaaGreat

namespace Go.Proofs.YtolnlfnndnpiiaaGreat
set_option linter.unusedVariables false

theorem up_hid {L : List En} (h : Fit L) {q : Bs} (hq : faultP q = 0) : ((above q).any fun u => (findE L u).any fun e => !decide (e.kind = 2)) = hid L q := by
  rw [Bool.eq_iff_iff, hid_iff, List.any_eq_true]
  constructor
  · rintro ⟨u, hu, hr⟩
    cases hf : findE L u with
    | none => rw [hf] at hr; cases hr
    | some e =>
      rw [hf] at hr
      obtain ⟨he, rfl⟩ := find_mem hf
      have hb : isBelow q e.path = true := by simpa [isBelow] using hu
      rw [isBelow_good hq] at hb
      exact ⟨e, he, by simpa using hr, (of_decide_eq_true hb).2⟩
  · rintro ⟨e, he, hk, hb⟩
    refine ⟨e.path, ?_, by rw [rise_find h.rise he]; simpa using hk⟩
    have hb : isBelow q e.path = true := by rw [isBelow_good hq]; exact decide_eq_true ⟨h.path he, hb⟩
    simpa [isBelow] using hb

def allE (ls : List (List En)) : List En := ls.foldl mergeE []
theorem allE_snoc (D : List (List En)) (L : List En) : allE (D ++ [L]) = mergeE (allE D) L := by simp [allE, List.foldl_append]
def sawN (ls : List (List En)) (q : Bs) (n : Nat) : Option En := (seenG (seeL ls) q n).bind fun k => (seeL ls k q).map asT
theorem all_view {ls : List (List En)} (h : ∀ es ∈ ls, Fit es) : ∀ n, n ≤ ls.length → FitT (allE (ls.take n)) ∧ ∀ q, faultP q = 0 → findE (allE (ls.take n)) q = sawN ls q n
  | 0, _ => ⟨by simpa [allE] using fitT_nil, fun q _ => by simp [allE, sawN, seenG, findE]⟩
  | n + 1, hn => by
    obtain ⟨ih1, ih2⟩ := all_view h n (by omega)
    have hL : ls[n]? = some (ls[n]'(by omega)) := List.getElem?_eq_getElem (by omega)
    have hm := List.mem_of_getElem? hL
    generalize ls[n]'(by omega) = L at *
    have ht : ls.take (n + 1) = ls.take n ++ [L] := by rw [List.take_add_one, hL]; rfl
    rw [ht, allE_snoc]
    have hF := h L hm
    refine ⟨merge_fit ih1 hF, fun q hq => ?_⟩
    rw [merge_find ih1 hF]
    have hS : ∀ u, seeL ls n u = findE L u := fun u => by simp [seeL, hL]
    unfold sawN
    cases hf : findE L q with
    | some e =>
      rw [seeT_some hf, seen_hit (by rw [hS]; exact hf)]
      by_cases h3 : e.kind = 3
      · simp [h3]
      · simp [h3, hS, hf]
    | none =>
      rw [seeT_none hf]
      have hu := up_hid hF hq
      cases hh : hid L q
      · rw [seen_down (by rw [hS]; exact hf) (by simp only [hS]; rw [hu, hh]), if_neg (by simp), ih2 q hq]
        rfl
      · rw [seen_hid (by rw [hS]; exact hf) (by simp only [hS]; rw [hu, hh])]
        simp
theorem seen_over {ls : List (List En)} {q : Bs} : ∀ {n : Nat}, ls.length ≤ n → seenG (seeL ls) q n = seenG (seeL ls) q ls.length
  | 0, h => by rw [Nat.le_zero.1 h]
  | n + 1, h => by
    by_cases h1 : ls.length = n + 1
    · rw [h1]
    · have hS : ∀ u, seeL ls n u = none := fun u => by
        have : ls[n]? = none := List.getElem?_eq_none (by omega)
        simp [seeL, this]
      rw [seen_down (hS q) (by rw [List.any_eq_false]; intro u _; rw [hS u]; simp)]
      exact seen_over (by omega)
def sawE (ls : List (List En)) (q : Bs) : Option En := (seenL ls q).bind fun k => (seeL ls k q).map asT
theorem all_fit {ls : List (List En)} (h : ∀ es ∈ ls, Fit es) : FitT (allE ls) := by
  have := (all_view h ls.length (Nat.le_refl _)).1
  rwa [List.take_length] at this
theorem all_find {ls : List (List En)} (h : ∀ es ∈ ls, Fit es) (h4 : ls.length ≤ 4) {q : Bs} (hq : faultP q = 0) : findE (allE ls) q = sawE ls q := by
  have := (all_view h ls.length (Nat.le_refl _)).2 q hq
  rw [List.take_length] at this
  rw [this]
  unfold sawN sawE seenL
  rw [seen_over h4]
theorem rights_fit {ls : List (List En)} (h : ∀ es ∈ ls, Right es) : ∀ es ∈ ls, Fit es := fun es he => (right_fit.1 (h es he)).1
end Go.Proofs.YtolnlfnndnpiiaaGreat

namespace Go.Proofs.YtolnlfnndnpiiaaGreat
open Go.RowKit
set_option linter.unusedVariables false

theorem all_bare (ls : List (List En)) : allE (ls ++ [[]]) = allE ls := by rw [allE_snoc]; rfl
def RdS (w : World) (a : Option Addr) (l : List Sn) : Prop :=
  l ≠ [] → ∃ (b off : Nat) (A : Nat → Option Addr) (C : Nat → Nat), a = some ⟨b, off, none⟩ ∧ b < w.heap.size ∧ ∀ i s, l[i]? = some s →
    w.cell? ⟨b, off + i * 5, none⟩ = some (.string (str s.name)) ∧ w.cell? ⟨b, off + i * 5 + 1, none⟩ = some (.string (str s.parent)) ∧ w.cell? ⟨b, off + i * 5 + 2, none⟩ = some (.int .i64 s.kind) ∧ w.cell? ⟨b, off + i * 5 + 3, none⟩ = some (.bool s.lease) ∧
    w.cell? ⟨b, off + i * 5 + 4, none⟩ = some (.slice (A i) s.layer.length (C i)) ∧ RdE w (A i) s.layer
theorem RdS.nil (w : World) (a : Option Addr) : RdS w a [] := fun h => absurd rfl h
theorem RdS.below {w w' : World} {a : Option Addr} {l : List Sn} (h : RdS w a l) (hk : Below w.heap.size w w') : RdS w' a l := by
  intro hz
  obtain ⟨b, off, A, C, e, hb, hc⟩ := h hz
  refine ⟨b, off, A, C, e, Nat.lt_of_lt_of_le hb hk.size, fun i x hx => ?_⟩
  obtain ⟨c0, c1, c2, c3, c4, r⟩ := hc i x hx
  exact ⟨(hk.cell (p := ⟨b, off + i * 5, none⟩) hb).trans c0, (hk.cell (p := ⟨b, off + i * 5 + 1, none⟩) hb).trans c1, (hk.cell (p := ⟨b, off + i * 5 + 2, none⟩) hb).trans c2, (hk.cell (p := ⟨b, off + i * 5 + 3, none⟩) hb).trans c3, (hk.cell (p := ⟨b, off + i * 5 + 4, none⟩) hb).trans c4, r.below hk⟩
theorem RdS.at {w : World} {a : Option Addr} {l : List Sn} (h : RdS w a l) {k : Nat} (hk : k < l.length) :
    ∃ b off s x c, a = some ⟨b, off, none⟩ ∧ b < w.heap.size ∧ l[k]? = some s ∧ w.cell? ⟨b, off + k * 5, none⟩ = some (.string (str s.name)) ∧ w.cell? ⟨b, off + k * 5 + 1, none⟩ = some (.string (str s.parent)) ∧ w.cell? ⟨b, off + k * 5 + 2, none⟩ = some (.int .i64 s.kind) ∧ w.cell? ⟨b, off + k * 5 + 3, none⟩ = some (.bool s.lease) ∧
      w.cell? ⟨b, off + k * 5 + 4, none⟩ = some (.slice x s.layer.length c) ∧ RdE w x s.layer := by
  obtain ⟨b, off, A, C, e, hb, hc⟩ := h (by intro e; simp [e] at hk)
  have hx : l[k]? = some l[k] := List.getElem?_eq_getElem hk
  obtain ⟨c0, c1, c2, c3, c4, r⟩ := hc k _ hx
  exact ⟨b, off, l[k], A k, C k, e, hb, hx, c0, c1, c2, c3, c4, r⟩
def SmallS (l : List Sn) : Prop := l.length ≤ 1048576 ∧ ∀ s ∈ l, s.name.length ≤ 1048576 ∧ s.parent.length ≤ 1048576 ∧ s.layer.length ≤ 1048576 ∧ SmallE s.layer
theorem RightS.small {l : List Sn} (h : RightS l) (hp : ∀ s ∈ l, s.parent.length ≤ 1048576) (he : ∀ s ∈ l, SmallE s.layer) : SmallS l := by
  refine ⟨by have := h.len; omega, fun s hs => ⟨?_, hp s hs, ?_, he s hs⟩⟩
  · have := (h.own s hs).1
    simp only [nmOk, Bool.and_eq_true, decide_eq_true_eq] at this
    omega
  · have := (right_P.1 (h.own s hs).2.2).len
    omega
end Go.Proofs.YtolnlfnndnpiiaaGreat

namespace Go.Proofs.YtolnlfnndnpiiaaGreat
open Go.RowKit Go.Sort Go.Shelf
set_option linter.unusedVariables false
def Tryz.pdqT_ren : Go.Shelf.Ren := ⟨fun | 14 => 252 | 20 => 262 | 21 => 263 | 22 => 264 | 23 => 265 | 24 => 266 | 25 => 267 | 26 => 268 | 27 => 269 | 46 => 272 | 47 => 244 | 48 => 245 | 49 => 273 | 50 => 274 | 15 => 157 | 57 => 279 | 28 => 211 | 29 => 212 | n => n, fun | 24 => 88 | 22 => 115 | 3 => 3 | 25 => 228 | 4 => 4 | 0 => 0 | 46 => 211 | 45 => 210 | 50 => 215 | 66 => 241 | 39 => 175 | 55 => 220 | 70 => 245 | 76 => 253 | 77 => 254 | 53 => 218 | 5 => 5 | 9 => 9 | n => n, fun | n => n⟩
theorem Tryz.pdqT : Go.Proofs.SlLaysF0.n14 Tryz.prog Tryz.pdqT_ren := {
  mixed := by kernel_rfl
  f14 := ⟨Tryz.f252.name, by decide, Tryz.func252.trans (congrArg some (by kernel_rfl))⟩
  f15 := Tryz.func157.trans (congrArg some (by kernel_rfl))
  f20 := ⟨Tryz.f262.name, by decide, Tryz.func262.trans (congrArg some (by kernel_rfl))⟩
  f21 := ⟨Tryz.f263.name, by decide, Tryz.func263.trans (congrArg some (by kernel_rfl))⟩
  f22 := ⟨Tryz.f264.name, by decide, Tryz.func264.trans (congrArg some (by kernel_rfl))⟩
  f23 := ⟨Tryz.f265.name, by decide, Tryz.func265.trans (congrArg some (by kernel_rfl))⟩
  f24 := ⟨Tryz.f266.name, by decide, Tryz.func266.trans (congrArg some (by kernel_rfl))⟩
  f25 := ⟨Tryz.f267.name, by decide, Tryz.func267.trans (congrArg some (by kernel_rfl))⟩
  f26 := ⟨Tryz.f268.name, by decide, Tryz.func268.trans (congrArg some (by kernel_rfl))⟩
  f27 := ⟨Tryz.f269.name, by decide, Tryz.func269.trans (congrArg some (by kernel_rfl))⟩
  f28 := Tryz.func211.trans (congrArg some (by kernel_rfl))
  f29 := Tryz.func212.trans (congrArg some (by kernel_rfl))
  f46 := ⟨Tryz.f272.name, by decide, Tryz.func272.trans (congrArg some (by kernel_rfl))⟩
  f47 := Tryz.func244.trans (congrArg some (by kernel_rfl))
  f48 := Tryz.func245.trans (congrArg some (by kernel_rfl))
  f49 := ⟨Tryz.f273.name, by decide, Tryz.func273.trans (congrArg some (by kernel_rfl))⟩
  f50 := ⟨Tryz.f274.name, by decide, Tryz.func274.trans (congrArg some (by kernel_rfl))⟩
  f57 := ⟨Tryz.f279.name, by decide, Tryz.func279.trans (congrArg some (by kernel_rfl))⟩
  t0 := Tryz.underlying0
  a0 := Tryz.isAgg0
  z0 := Tryz.sizeOf0
  v0 := Tryz.zeroValue0
  t3 := Tryz.underlying3
  a3 := Tryz.isAgg3
  z3 := Tryz.sizeOf3
  v3 := Tryz.zeroValue3
  t4 := Tryz.underlying4
  a4 := Tryz.isAgg4
  z4 := Tryz.sizeOf4
  v4 := Tryz.zeroValue4
  t5 := Tryz.underlying5
  a5 := Tryz.isAgg5
  z5 := Tryz.sizeOf5
  v5 := Tryz.zeroValue5
  t9 := Tryz.underlying9
  a9 := Tryz.isAgg9
  z9 := Tryz.sizeOf9
  v9 := Tryz.zeroValue9
  t22 := Tryz.underlying115
  a22 := Tryz.isAgg115
  z22 := Tryz.sizeOf115
  v22 := Tryz.zeroValue115
  t25 := Tryz.underlying228
  a25 := Tryz.isAgg228
  z25 := Tryz.sizeOf228
  v25 := Tryz.zeroValue228
  t39 := Tryz.underlying175
  a39 := Tryz.isAgg175
  z39 := Tryz.sizeOf175
  v39 := Tryz.zeroValue175
  t45 := Tryz.underlying210
  a45 := Tryz.isAgg210
  z45 := Tryz.sizeOf210
  v45 := Tryz.zeroValue210
  t46 := Tryz.underlying211
  a46 := Tryz.isAgg211
  z46 := Tryz.sizeOf211
  v46 := Tryz.zeroValue211
  t50 := Tryz.underlying215
  a50 := Tryz.isAgg215
  z50 := Tryz.sizeOf215
  v50 := Tryz.zeroValue215
  t53 := Tryz.underlying218
  a53 := Tryz.isAgg218
  z53 := Tryz.sizeOf218
  v53 := Tryz.zeroValue218
  t55 := Tryz.underlying220
  a55 := Tryz.isAgg220
  z55 := Tryz.sizeOf220
  v55 := Tryz.zeroValue220
  t66 := Tryz.underlying241
  a66 := Tryz.isAgg241
  z66 := Tryz.sizeOf241
  v66 := Tryz.zeroValue241
  t70 := Tryz.underlying245
  a70 := Tryz.isAgg245
  z70 := Tryz.sizeOf245
  v70 := Tryz.zeroValue245
  t76 := Tryz.underlying253
  a76 := Tryz.isAgg253
  z76 := Tryz.sizeOf253
  v76 := Tryz.zeroValue253
  t77 := Tryz.underlying254
  a77 := Tryz.isAgg254
  z77 := Tryz.sizeOf254
  v77 := Tryz.zeroValue254 }
def Tryz.lenT_ren : Go.Shelf.Ren := ⟨fun | 125 => 157 | 128 => 211 | 129 => 212 | n => n, fun | 46 => 175 | 3 => 3 | 51 => 218 | 53 => 220 | 4 => 4 | 5 => 5 | 9 => 9 | n => n, fun | n => n⟩
theorem Tryz.lenT : Go.Proofs.Lays.n125 Tryz.prog Tryz.lenT_ren := {
  mixed := by kernel_rfl
  f125 := Tryz.func157.trans (congrArg some (by kernel_rfl))
  f128 := Tryz.func211.trans (congrArg some (by kernel_rfl))
  f129 := Tryz.func212.trans (congrArg some (by kernel_rfl))
  t3 := Tryz.underlying3
  a3 := Tryz.isAgg3
  z3 := Tryz.sizeOf3
  v3 := Tryz.zeroValue3
  t4 := Tryz.underlying4
  a4 := Tryz.isAgg4
  z4 := Tryz.sizeOf4
  v4 := Tryz.zeroValue4
  t5 := Tryz.underlying5
  a5 := Tryz.isAgg5
  z5 := Tryz.sizeOf5
  v5 := Tryz.zeroValue5
  t9 := Tryz.underlying9
  a9 := Tryz.isAgg9
  z9 := Tryz.sizeOf9
  v9 := Tryz.zeroValue9
  t46 := Tryz.underlying175
  a46 := Tryz.isAgg175
  z46 := Tryz.sizeOf175
  v46 := Tryz.zeroValue175
  t51 := Tryz.underlying218
  a51 := Tryz.isAgg218
  z51 := Tryz.sizeOf218
  v51 := Tryz.zeroValue218
  t53 := Tryz.underlying220
  a53 := Tryz.isAgg220
  z53 := Tryz.sizeOf220
  v53 := Tryz.zeroValue220 }
end Go.Proofs.YtolnlfnndnpiiaaGreat

namespace Go.Proofs.YtolnlfnndnpiiaaGreat
open Go.RowKit Go.Sort
set_option linter.unusedVariables false

def cmpB (a b : Bs) : Int := if Op.bytesLess a b then -1 else if Op.bytesLess b a then 1 else 0
theorem cmpB_lt (a b : Bs) : decide (cmpB a b < 0) = Op.bytesLess a b := by
  unfold cmpB
  cases h : Op.bytesLess a b
  · cases h2 : Op.bytesLess b a <;> rfl
  · rfl

theorem isNaN_any (s : ByteArray) (w : World) : Calls Tryz.prog 158 #[.string s] w fun e w' => e = .returned (.bool false) ∧ w' = w := by
  go_enter Tryz.func158, Tryz.ntmps158
  go_wp2
  go_ret
  exact ⟨by simp, rfl⟩
set_option maxHeartbeats 800000 in
theorem compare_any (p q : Bs) (w : World) : Calls Tryz.prog 115 #[.string (str p), .string (str q)] w fun e w' => e = .returned (.int .i64 (cmpB p q)) ∧ w' = w := by
  obtain ⟨F, hF⟩ : ∃ F : Int, F = cmpB p q := ⟨_, rfl⟩
  rw [← hF]
  cases h1 : Op.bytesLess (str p).toList (str q).toList
  · by_cases hpq : p = q
    · have hs1 := str_yes hpq
      have HE := hide (show F = 0 from by rw [hF, cmpB, hpq, bl_irrefl]; rfl)
      clear hF hpq
      go_enter Tryz.func115, Tryz.ntmps115
      go_wp2_with (go_at_call 158; refine (isNaN_any _ _).mono ?_; rintro e w' ⟨rfl, rfl⟩)
      go_ret
      exact ⟨ret_int HE.out.symm, rfl⟩
    · have hs1 := str_no hpq
      have HE := hide (show F = 1 from by
        rw [str_toList, str_toList] at h1
        rw [hF, cmpB, h1, bl_total _ _ h1 hpq]; rfl)
      clear hF hpq
      go_enter Tryz.func115, Tryz.ntmps115
      go_wp2_with (go_at_call 158; refine (isNaN_any _ _).mono ?_; rintro e w' ⟨rfl, rfl⟩)
      go_ret
      exact ⟨ret_int HE.out.symm, rfl⟩
  · have HE := hide (show F = -1 from by rw [hF, cmpB]; rw [str_toList, str_toList] at h1; rw [h1]; rfl)
    clear hF
    go_enter Tryz.func115, Tryz.ntmps115
    go_wp2_with (go_at_call 158; refine (isNaN_any _ _).mono ?_; rintro e w' ⟨rfl, rfl⟩)
    go_ret
    exact ⟨ret_int HE.out.symm, rfl⟩
set_option maxHeartbeats 800000 in
theorem sortLit_any (x y : Rw) (W : World) : Calls Tryz.prog 225 #[.agg (cellsI x).toArray, .agg (cellsI y).toArray] W fun e w' => e = .returned (.int .i64 (cmpB x.e.path y.e.path)) ∧ ∃ q os', w' = grow (W.drewN q) os' := by
  have hcon := fun W' => compare_any x.e.path y.e.path W'
  generalize cmpB x.e.path y.e.path = r at hcon ⊢
  show Calls Tryz.prog 225 #[.agg #[.int .i64 x.e.size, .slice x.a x.e.chunks.length x.c, .string (str x.e.path), .int .i64 x.e.kind], .agg #[.int .i64 y.e.size, .slice y.a y.e.chunks.length y.c, .string (str y.e.path), .int .i64 y.e.kind]] W _
  go_enter Tryz.func225, Tryz.ntmps225
  go_wp2_with (go_at_call 115; refine (hcon _).mono ?_; rintro e w' ⟨rfl, rfl⟩)
  go_ret
  exact ⟨rfl, 0, _, by rw [alloc_eq_grow, alloc_eq_grow, grow_grow]; rfl⟩

theorem rise_unique : ∀ {l1 l2 : List Rw}, l1.Perm l2 → l1.Pairwise (fun x y => Op.bytesLess x.e.path y.e.path = true) → l2.Pairwise (fun x y => Op.bytesLess x.e.path y.e.path = true) → l1 = l2
  | [], l2, hp, _, _ => hp.symm.eq_nil.symm
  | a :: l1, [], hp, _, _ => by have := hp.length_eq; simp at this
  | a :: l1, b :: l2, hp, h1, h2 => by
    have p1 := List.pairwise_cons.1 h1
    have p2 := List.pairwise_cons.1 h2
    have hab : a = b := by
      have ha : a ∈ b :: l2 := hp.subset List.mem_cons_self
      have hb : b ∈ a :: l1 := hp.symm.subset List.mem_cons_self
      rcases List.mem_cons.1 ha with h | ha
      · exact h
      · rcases List.mem_cons.1 hb with h | hb
        · exact h.symm
        · have q1 := p2.1 a ha
          have q2 := p1.1 b hb
          rw [bl_asymm q1] at q2
          cases q2
    subst hab
    rw [rise_unique (List.Perm.cons_inv hp) p1.2 p2.2]

theorem swo_path : SWO (ltOf fun x y : Rw => cmpB x.e.path y.e.path) := by
  have e : ∀ x y : Rw, ltOf (fun x y : Rw => cmpB x.e.path y.e.path) x y = Op.bytesLess x.e.path y.e.path := fun x y => cmpB_lt _ _
  refine ⟨fun x => by rw [e, bl_irrefl], fun x y z => by rw [e, e, e]; exact bl_trans _ _ _, fun x y z => ?_⟩
  rw [e, e, e]
  intro h1 h2
  cases h3 : Op.bytesLess x.e.path z.e.path
  · rfl
  · by_cases h4 : y.e.path = z.e.path
    · rw [h4] at h1; rw [h1] at h3; cases h3
    · have := bl_trans _ _ _ h3 (bl_total _ _ h2 h4)
      rw [h1] at this; cases this

end Go.Proofs.YtolnlfnndnpiiaaGreat

