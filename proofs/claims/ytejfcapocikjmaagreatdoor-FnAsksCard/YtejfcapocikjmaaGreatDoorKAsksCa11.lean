/-
  Texts put together: LayR EntH IteG FetBb.
-/
import Derived.Test.YtejfcapocikjmaaGreatDoorKAsksCa10
import Derived.Test.YtejfcapocikjmaaGreatDoorKAsksCa9
import Derived.Test.YtejfcapocikjmaaGreatDoorKAsksCa6
namespace Go.Proofs.YtejfcapocikjmaaGreatDoor
set_option linter.unusedVariables false

theorem bl_irrefl : ∀ a : Bs, Op.bytesLess a a = false
  | [] => rfl
  | c :: a => by simp [Op.bytesLess, bl_irrefl a]
theorem bl_trans : ∀ a b c : Bs, Op.bytesLess a b = true → Op.bytesLess b c = true → Op.bytesLess a c = true
  | a, [], c, h, _ => by cases a <;> simp [Op.bytesLess] at h
  | [], b :: bs, [], _, h2 => by simp [Op.bytesLess] at h2
  | [], b :: bs, c :: cs, _, _ => by simp [Op.bytesLess]
  | a :: xs, b :: ys, [], _, h2 => by simp [Op.bytesLess] at h2
  | a :: xs, b :: ys, c :: zs, h1, h2 => by
    simp only [Op.bytesLess, Bool.or_eq_true, decide_eq_true_eq, Bool.and_eq_true, beq_iff_eq] at h1 h2 ⊢
    rcases h1 with h1 | ⟨rfl, h1⟩
    · rcases h2 with h2 | ⟨rfl, h2⟩
      · exact .inl (UInt8.lt_trans h1 h2)
      · exact .inl h1
    · rcases h2 with h2 | ⟨rfl, h2⟩
      · exact .inl h2
      · exact .inr ⟨rfl, bl_trans xs ys zs h1 h2⟩
theorem bl_total : ∀ a b : Bs, Op.bytesLess a b = false → a ≠ b → Op.bytesLess b a = true
  | [], [], _, h => absurd rfl h
  | [], b :: bs, h, _ => by simp [Op.bytesLess] at h
  | a :: xs, [], _, _ => by simp [Op.bytesLess]
  | a :: xs, b :: ys, h, hn => by
    simp only [Op.bytesLess, Bool.or_eq_false_iff, decide_eq_false_iff_not, Bool.and_eq_false_iff, beq_eq_false_iff_ne] at h
    simp only [Op.bytesLess, Bool.or_eq_true, decide_eq_true_eq, Bool.and_eq_true, beq_iff_eq]
    by_cases e : a = b
    · subst e
      refine .inr ⟨rfl, bl_total xs ys ?_ (fun x => hn (by rw [x]))⟩
      rcases h.2 with h2 | h2
      · exact absurd rfl h2
      · exact h2
    · refine .inl ?_
      have h1 := h.1
      rw [UInt8.lt_iff_toNat_lt] at h1 ⊢
      have : a.toNat ≠ b.toNat := fun x => e (UInt8.toNat_inj.1 x)
      omega
theorem bl_asymm {a b : Bs} (h : Op.bytesLess a b = true) : Op.bytesLess b a = false := by
  cases h2 : Op.bytesLess b a
  · rfl
  · have := bl_trans a b a h h2
    rw [bl_irrefl] at this
    cases this
theorem bl_ne {a b : Bs} (h : Op.bytesLess a b = true) : a ≠ b := fun e => by rw [e, bl_irrefl] at h; cases h

def Rise (es : List En) : Prop := es.Pairwise fun x y => Op.bytesLess x.path y.path = true
theorem lowE_some {q e : En} (h : lowE (some q) e = false) : Op.bytesLess q.path e.path = true := by
  simp only [lowE, Bool.or_eq_false_iff, beq_eq_false_iff_ne] at h
  exact bl_total _ _ h.1 h.2
theorem lowE_of {q e : En} (h : Op.bytesLess q.path e.path = true) : lowE (some q) e = false := by
  simp only [lowE, Bool.or_eq_false_iff, beq_eq_false_iff_ne]
  exact ⟨bl_asymm h, fun x => bl_ne h x.symm⟩
theorem layFromH_zero {H : Bs → Bool} : ∀ {l : List En} {prev : Option En}, layFromH H prev l = 0 ↔ (∀ e ∈ l, entFault e = 0 ∧ H e.path = true) ∧ Rise l ∧ ∀ q, prev = some q → ∀ e ∈ l, Op.bytesLess q.path e.path = true
  | [], prev => by simp [layFromH, Rise]
  | x :: r, prev => by
    have ih := layFromH_zero (H := H) (l := r) (prev := some x)
    have hx : entBadH H prev x = 0 ↔ entFault x = 0 ∧ lowE prev x = false ∧ H x.path = true := by
      unfold entBadH
      by_cases h1 : entFault x = 0
      · simp only [h1, if_true, true_and]
        cases h2 : lowE prev x
        · cases h3 : H x.path <;> simp
        · simp
      · simp [h1]
    simp only [layFromH]
    by_cases hb : entBadH H prev x = 0
    · rw [if_pos hb, ih]
      obtain ⟨h1, h2, h3⟩ := hx.1 hb
      constructor
      · rintro ⟨a1, a2, a3⟩
        refine ⟨fun e he => ?_, List.pairwise_cons.2 ⟨fun e he => a3 x rfl e he, a2⟩, fun q hq e he => ?_⟩
        · rcases List.mem_cons.1 he with rfl | he
          · exact ⟨h1, h3⟩
          · exact a1 e he
        · subst hq
          have := lowE_some h2
          rcases List.mem_cons.1 he with rfl | he
          · exact this
          · exact bl_trans _ _ _ this (a3 x rfl e he)
      · rintro ⟨a1, a2, a3⟩
        refine ⟨fun e he => a1 e (List.mem_cons_of_mem _ he), (List.pairwise_cons.1 a2).2, fun q hq e he => ?_⟩
        cases hq
        exact (List.pairwise_cons.1 a2).1 e he
    · rw [if_neg hb]
      constructor
      · intro h; exact absurd h hb
      · rintro ⟨a1, a2, a3⟩
        exfalso
        refine hb (hx.2 ⟨(a1 x List.mem_cons_self).1, ?_, (a1 x List.mem_cons_self).2⟩)
        cases prev with
        | none => rfl
        | some q => exact lowE_of (a3 q rfl x List.mem_cons_self)
theorem rise_find {es : List En} (h : Rise es) {e : En} (he : e ∈ es) : findE es e.path = some e := by
  induction es with
  | nil => simp at he
  | cons x r ih =>
    have hp := List.pairwise_cons.1 h
    rcases List.mem_cons.1 he with rfl | he
    · simp [findE]
    · have := hp.1 e he
      rw [findE, List.find?_cons]
      have hn : x.path ≠ e.path := bl_ne this
      simp only [hn, decide_false]
      exact ih hp.2 he
theorem find_mem {es : List En} {p : Bs} {e : En} (h : findE es p = some e) : e ∈ es ∧ e.path = p := by
  refine ⟨List.mem_of_find?_eq_some h, ?_⟩
  have := List.find?_some h
  simpa using this
theorem homeP_iff {es : List En} {p : Bs} : homeP es p = true ↔ parentP p = [] ∨ ∃ d ∈ es, d.path = parentP p ∧ dirK d.kind = true := by
  unfold homeP hasDir
  by_cases h : parentP p = []
  · simp [h]
  · simp [h]
theorem homeP_eq {es : List En} (h : Rise es) (p : Bs) : homeP es p = homeE es p := by
  unfold homeP homeE
  by_cases h0 : parentP p = []
  · simp [h0]
  · rw [if_neg h0, if_neg h0]
    cases hf : findE es (parentP p) with
    | none =>
      rw [hasDir, List.any_eq_false]
      intro x hx
      have := List.find?_eq_none.1 hf x hx
      simp only [decide_eq_true_eq] at this
      simp [this]
    | some d =>
      obtain ⟨hd, hdp⟩ := find_mem hf
      cases hk : dirK d.kind
      · show hasDir es (parentP p) = dirK d.kind
        rw [hk, hasDir, List.any_eq_false]
        intro x hx
        by_cases hxp : x.path = parentP p
        · have := rise_find h hx
          rw [hxp, hf] at this
          cases this
          simp [hk]
        · simp [hxp]
      · show hasDir es (parentP p) = dirK d.kind
        rw [hk, hasDir, List.any_eq_true]
        exact ⟨d, hd, by simp [hdp, hk]⟩
structure Right (es : List En) : Prop where
  len : es.length ≤ 12
  ent : ∀ e ∈ es, entFault e = 0
  rise : Rise es
  home : ∀ e ∈ es, homeP es e.path = true
theorem right_P {es : List En} : layFaultP es = 0 ↔ Right es := by
  unfold layFaultP
  by_cases h : 12 < es.length
  · rw [if_pos h]
    exact ⟨fun x => (by cases x), fun x => (by have := x.len; omega)⟩
  · rw [if_neg h, layFromH_zero]
    exact ⟨fun ⟨a, b, _⟩ => ⟨by omega, fun e he => (a e he).1, b, fun e he => (a e he).2⟩, fun x => ⟨fun e he => ⟨x.ent e he, x.home e he⟩, x.rise, fun q hq => by cases hq⟩⟩
theorem layFromH_congr {H H' : Bs → Bool} : ∀ {l : List En} {prev : Option En}, (∀ e ∈ l, entFault e = 0 → H e.path = H' e.path) → layFromH H prev l = layFromH H' prev l
  | [], _, _ => rfl
  | x :: r, prev, h => by
    have hx : entBadH H prev x = entBadH H' prev x := by
      unfold entBadH
      by_cases h1 : entFault x = 0
      · rw [h x List.mem_cons_self h1]
      · simp [h1]
    simp only [layFromH]
    rw [hx, layFromH_congr (l := r) (prev := some x) (fun e he => h e (List.mem_cons_of_mem _ he))]
theorem right_E {es : List En} : layFault es = 0 ↔ Right es := by
  unfold layFault
  by_cases h : 12 < es.length
  · rw [if_pos h]
    exact ⟨fun x => (by cases x), fun x => (by have := x.len; omega)⟩
  · rw [if_neg h, layFrom_H, layFromH_zero]
    exact ⟨fun ⟨a, b, _⟩ => ⟨by omega, fun e he => (a e he).1, b, fun e he => by rw [homeP_eq b]; exact (a e he).2⟩, fun x => ⟨fun e he => ⟨x.ent e he, by rw [← homeP_eq x.rise]; exact x.home e he⟩, x.rise, fun q hq => by cases hq⟩⟩

theorem belowB_iff {p t : Bs} : belowB p t = true ↔ ∃ r, r ≠ [] ∧ p = t ++ 47 :: r := by
  simp only [belowB, Bool.and_eq_true, decide_eq_true_eq, beq_iff_eq]
  constructor
  · rintro ⟨⟨hl, ht⟩, hh⟩
    cases e : p.drop t.length with
    | nil => rw [e] at hh; simp at hh
    | cons c r =>
      rw [e] at hh
      simp at hh
      subst hh
      refine ⟨r, ?_, ?_⟩
      · intro h0
        have := congrArg List.length e
        rw [List.length_drop, h0] at this
        simp at this
        omega
      · rw [← e]
        conv => lhs; rw [← List.take_append_drop t.length p, ht]
  · rintro ⟨r, hr, rfl⟩
    have := List.length_pos_iff.2 hr
    simp
    first | done | omega
theorem below_trans {p q t : Bs} (h1 : belowB p q = true) (h2 : belowB q t = true) : belowB p t = true := by
  obtain ⟨r, hr, rfl⟩ := belowB_iff.1 h1
  obtain ⟨s, hs, rfl⟩ := belowB_iff.1 h2
  exact belowB_iff.2 ⟨s ++ 47 :: r, by simp, by simp⟩
theorem below_len {p t : Bs} (h : belowB p t = true) : t.length < p.length := by
  obtain ⟨r, hr, rfl⟩ := belowB_iff.1 h
  simp
theorem parent_above {p : Bs} (hp : faultP p = 0) (h : parentP p ≠ []) : faultP (parentP p) = 0 ∧ belowB p (parentP p) = true := by
  have hm : parentP p ∈ aboveN (cutB p.tail) := by
    have hne : aboveN (cutB p.tail) ≠ [] := fun e => h (parentP_nil.2 e)
    unfold parentP
    rw [List.getLastD_eq_getLast?, List.getLast?_eq_some_getLast hne]
    exact List.getLast_mem _
  exact (above_iff hp).1 hm
theorem mem_putAt {bs : List En} {e x : En} : x ∈ putAt bs e ↔ x = e ∨ x ∈ bs := by
  have hb : x ∈ bs ↔ x ∈ bs.take (lowN bs e.path) ∨ x ∈ bs.drop (lowN bs e.path) := by
    conv => lhs; rw [← List.take_append_drop (lowN bs e.path) bs]
    exact List.mem_append
  unfold putAt
  rw [List.mem_append, List.mem_cons, hb]
  exact ⟨fun h => h.elim (fun h => .inr (.inl h)) (fun h => h.elim .inl (fun h => .inr (.inr h))), fun h => h.elim (fun h => .inr (.inl h)) (fun h => h.elim .inl (fun h => .inr (.inr h)))⟩
theorem mem_putE {es : List En} {e x : En} : x ∈ putE es e ↔ x = e ∨ (x ∈ es ∧ keepE e x = true) := by
  rw [putE, mem_putAt, baseE, List.mem_filter]
theorem low_take {p : Bs} : ∀ (bs : List En), ∀ x ∈ bs.take (lowN bs p), Op.bytesLess x.path p = true
  | [], x, hx => by simp [lowN] at hx
  | b :: bs, x, hx => by
    unfold lowN at hx
    rw [List.takeWhile_cons] at hx
    cases h : Op.bytesLess b.path p
    · rw [h] at hx; simp at hx
    · rw [h] at hx
      simp only [if_true, List.length_cons, List.take_succ_cons, List.mem_cons] at hx
      rcases hx with rfl | hx
      · exact h
      · exact low_take bs x hx
theorem low_drop {p : Bs} : ∀ (bs : List En), Rise bs → (∀ x ∈ bs, x.path ≠ p) → ∀ x ∈ bs.drop (lowN bs p), Op.bytesLess p x.path = true
  | [], _, _, x, hx => by simp at hx
  | b :: bs, hr, hn, x, hx => by
    unfold lowN at hx
    rw [List.takeWhile_cons] at hx
    cases h : Op.bytesLess b.path p
    · rw [h] at hx
      simp only [if_false, Bool.false_eq_true, List.length_nil, List.drop_zero] at hx
      have hb := bl_total _ _ h (hn b List.mem_cons_self)
      rcases List.mem_cons.1 hx with rfl | hx
      · exact hb
      · exact bl_trans _ _ _ hb ((List.pairwise_cons.1 hr).1 x hx)
    · rw [h] at hx
      simp only [if_true, List.length_cons, List.drop_succ_cons] at hx
      exact low_drop bs (List.pairwise_cons.1 hr).2 (fun y hy => hn y (List.mem_cons_of_mem _ hy)) x hx
theorem rise_putAt {bs : List En} {e : En} (h : Rise bs) (hn : ∀ x ∈ bs, x.path ≠ e.path) : Rise (putAt bs e) := by
  unfold putAt Rise
  rw [List.pairwise_append]
  refine ⟨h.sublist (List.take_sublist _ _), List.pairwise_cons.2 ⟨fun x hx => low_drop bs h hn x hx, h.sublist (List.drop_sublist _ _)⟩, fun x hx y hy => ?_⟩
  have h1 := low_take bs x hx
  rcases List.mem_cons.1 hy with rfl | hy
  · exact h1
  · exact bl_trans _ _ _ h1 (low_drop bs h hn y hy)
theorem rise_putE {es : List En} {e : En} (h : Rise es) : Rise (putE es e) := by
  refine rise_putAt (h.sublist List.filter_sublist) (fun x hx => ?_)
  have := (List.mem_filter.1 hx).2
  simp only [keepE, Bool.and_eq_true, Bool.not_eq_true', decide_eq_false_iff_not] at this
  exact this.1
theorem right_put {es : List En} {e : En} (h : Right es) (he : entFault e = 0) (hh : homeP es e.path = true) (hl : (putE es e).length ≤ 12) : Right (putE es e) := by
  have hpe := entFault_zero he
  refine ⟨hl, fun x hx => ?_, rise_putE h.rise, fun x hx => ?_⟩
  · rcases mem_putE.1 hx with rfl | ⟨hx, _⟩
    · exact he
    · exact h.ent x hx
  · rw [homeP_iff]
    rcases mem_putE.1 hx with rfl | ⟨hx, hk⟩
    · rcases homeP_iff.1 hh with h0 | ⟨d, hd, hdp, hdk⟩
      · exact .inl h0
      · by_cases h0 : parentP x.path = []
        · exact .inl h0
        · have hb := (parent_above hpe h0).2
          have hlen := below_len hb
          refine .inr ⟨d, mem_putE.2 (.inr ⟨hd, ?_⟩), hdp, hdk⟩
          have h1 : d.path ≠ x.path := fun e => by rw [hdp] at e; rw [e] at hlen; omega
          have h2 : belowB d.path x.path = false := by
            cases h3 : belowB d.path x.path
            · rfl
            · have := below_len h3; rw [hdp] at this; omega
          simp [keepE, h1, h2]
    · have hpx := entFault_zero (h.ent x hx)
      rcases homeP_iff.1 (h.home x hx) with h0 | ⟨d, hd, hdp, hdk⟩
      · exact .inl h0
      · by_cases h0 : parentP x.path = []
        · exact .inl h0
        · have hb := (parent_above hpx h0).2
          rw [← hdp] at hb
          simp only [keepE, Bool.and_eq_true, Bool.not_eq_true', decide_eq_false_iff_not, Bool.or_eq_true] at hk
          by_cases hde : d.path = e.path
          · rcases hk.2 with hk2 | hk2
            · exact .inr ⟨e, mem_putE.2 (.inl rfl), by rw [← hde]; exact hdp, hk2⟩
            · rw [hde] at hb; rw [hb] at hk2; cases hk2
          · refine .inr ⟨d, mem_putE.2 (.inr ⟨hd, ?_⟩), hdp, hdk⟩
            simp only [keepE, Bool.and_eq_true, Bool.not_eq_true', decide_eq_false_iff_not, Bool.or_eq_true]
            refine ⟨hde, hk.2.elim .inl (fun hk2 => .inr ?_)⟩
            cases h3 : belowB d.path e.path
            · rfl
            · rw [below_trans hb h3] at hk2; cases hk2
theorem right_nil : Right [] := ⟨by simp, fun e he => by simp at he, List.Pairwise.nil, fun e he => by simp at he⟩

def putCodeP (es : List En) (e : En) : Int :=
  if layFaultP es = 0 then (if entFault e = 0 then (if homeP es e.path then (if 12 < (putE es e).length then 2 else 0) else 9) else entFault e) else layFaultP es
theorem putP_zero {es : List En} {e : En} (h : putCodeP es e = 0) : Right es ∧ entFault e = 0 ∧ homeP es e.path = true ∧ (putE es e).length ≤ 12 ∧ Right (putE es e) := by
  unfold putCodeP at h
  by_cases h1 : layFaultP es = 0
  · rw [if_pos h1] at h
    by_cases h2 : entFault e = 0
    · rw [if_pos h2] at h
      cases h3 : homeP es e.path
      · rw [h3] at h; simp at h
      · rw [h3] at h
        by_cases h4 : 12 < (putE es e).length
        · rw [if_pos rfl, if_pos h4] at h; cases h
        · have hR := right_P.1 h1
          exact ⟨hR, h2, rfl, by omega, right_put hR h2 h3 (by omega)⟩
    · rw [if_neg h2] at h; exact absurd h h2
  · rw [if_neg h1] at h; exact absurd h h1

end Go.Proofs.YtejfcapocikjmaaGreatDoor

namespace Go.Proofs.YtejfcapocikjmaaGreatDoor
open Go.RowKit Go.Maps
set_option linter.unusedVariables false

theorem has_upto {ms : List Int} {z : Int} (h : ∀ j, j < ms.length → ms.getD j 0 ≠ z) : ms.contains z = false := by
  simp only [List.contains_eq_mem, decide_eq_false_iff_not]
  intro hm
  obtain ⟨j, hj, e⟩ := List.mem_iff_getElem.1 hm
  exact h j hj (by simp [List.getD_eq_getElem?_getD, hj, e])
theorem has_hit {ms : List Int} {z : Int} {j : Nat} (hj : j < ms.length) (h : ms.getD j 0 = z) : ms.contains z = true := by
  simp only [List.contains_eq_mem, decide_eq_true_eq]
  have : ms.getD j 0 = ms[j] := by simp [List.getD_eq_getElem?_getD, hj]
  rw [← h, this]
  exact List.getElem_mem hj

set_option maxRecDepth 100000 in
set_option maxHeartbeats 800000 in
theorem l2Among_in (a : Option Addr) (c : Nat) (ms : List Int) (z : Int) (w : World) (h : Reads .i64 w a ms) (hl : ms.length ≤ 1048576) :
    Calls Tryz.prog 23 #[.slice a ms.length c, .int .i64 z] w fun e w' => e = .returned (.bool (ms.contains z)) ∧ w' = w := by
  have HA := hide h
  clear h
  generalize hr : ms.contains z = r
  have HR := hide hr
  clear hr
  go_enter Tryz.func23, Tryz.ntmps23
  go_wp2
  go_loop [5] (fun i => ∃ k : Nat, k ≤ ms.length ∧ i = .int .i64 k ∧ ∀ j, j < k → ms.getD j 0 ≠ z) (fun i => ms.length - (intOf i).toNat)
  case atStart => exact ⟨0, Nat.zero_le _, rfl, fun j hj => absurd hj (by omega)⟩
  case round =>
    obtain ⟨k, hk, rfl, hF⟩ := hrel
    have HF := hide hF
    clear hF
    by_cases hlt : k < ms.length
    · obtain ⟨b, off, rfl, hb1, hc⟩ := HA.out (by intro e; simp [e] at hlt)
      have hc1 := hc k hlt
      generalize hy : ms.getD k 0 = y at hc1
      have HY := hide hy
      clear hy hc
      by_cases e : y = z
      · have e' : (y == z) = true := by simpa using e
        have HE := hide e
        clear e
        go_wp2
        go_ret
        exact ⟨ret_bool (by rw [← HR.out]; exact (has_hit hlt (HY.out.trans HE.out)).symm), rfl⟩
      · have e' : (y == z) = false := by simpa using e
        go_wp2
        go_round
        case rel => exact ⟨k + 1, by omega, by go_num, fun j hj => by
          by_cases ej : j = k
          · subst ej; rw [HY.out]; exact e
          · exact HF.out j (by omega)⟩
        case measure => simp [intOf]; omega
    · go_wp2
      go_ret
      exact ⟨ret_bool (by rw [← HR.out]; exact (has_upto (fun j hj => HF.out j (by omega))).symm), rfl⟩

def addZ (acc : List Int) (z : Int) : List Int := if acc.contains z then acc else acc ++ [z]
def onceZ (zs : List Int) : List Int := zs.foldl addZ []
def allCh (es : List En) : List Int := es.flatMap En.chunks
theorem onceZ_snoc (zs : List Int) (z : Int) : onceZ (zs ++ [z]) = addZ (onceZ zs) z := by simp [onceZ]
theorem onceZ_le (zs : List Int) : (onceZ zs).length ≤ zs.length := by
  suffices ∀ (zs acc : List Int), (zs.foldl addZ acc).length ≤ acc.length + zs.length by simpa [onceZ] using this zs []
  intro zs
  induction zs with
  | nil => intro acc; simp
  | cons z r ih =>
    intro acc
    have h1 := ih (addZ acc z)
    have h2 : (addZ acc z).length ≤ acc.length + 1 := by unfold addZ; split <;> simp
    simp only [List.foldl_cons, List.length_cons]
    omega
def upTo (es : List En) (j : Nat) (e : En) (k : Nat) : List Int := allCh (es.take j) ++ e.chunks.take k
theorem upTo_succ {es : List En} {j k : Nat} {e : En} {z : Int} (h : e.chunks[k]? = some z) : upTo es j e (k + 1) = upTo es j e k ++ [z] := by
  unfold upTo; rw [take_snoc_at h, List.append_assoc]
theorem upTo_end {es : List En} {j k : Nat} {e : En} (he : es[j]? = some e) (hk : e.chunks.length ≤ k) : upTo es j e k = allCh (es.take (j + 1)) := by
  unfold upTo; rw [List.take_of_length_le hk, take_snoc_at he]; simp [allCh]
theorem upTo_zero (es : List En) (j : Nat) (e : En) : upTo es j e 0 = allCh (es.take j) := by simp [upTo]
theorem allCh_le {es : List En} (h : ∀ e ∈ es, e.chunks.length ≤ 1024) : (allCh es).length ≤ es.length * 1024 := by
  induction es with
  | nil => simp [allCh]
  | cons e r ih =>
    have h1 := ih (fun x hx => h x (List.mem_cons_of_mem _ hx))
    have h2 := h e (List.mem_cons_self ..)
    simp only [allCh, List.flatMap_cons, List.length_append, List.length_cons] at h1 ⊢
    omega

set_option maxRecDepth 100000 in
set_option maxHeartbeats 3200000 in
theorem l4Chunks_any (a : Option Addr) (c n : Nat) (es : List En) (w : World) (h : RdE w a es) (hn : n = es.length) (hl : es.length ≤ 512) (hs : ∀ e ∈ es, e.chunks.length ≤ 1024) :
    Calls Tryz.prog 22 #[.slice a n c] w fun r w' => ∃ v, r = .returned v ∧ w'.ownsRow w.heap.size 2 1 v (onceZ (allCh es)).length ((onceZ (allCh es)).map (Value.int .i64)) ∧ Below w.heap.size w w' := by
  subst hn
  obtain ⟨i0, hi0, hz0, hz1, hz2⟩ := info_parts Tryz.infoI64
  have HA := hide h
  have HS := hide hs
  clear h hs
  go_enter Tryz.func22, Tryz.ntmps22
  go_wp2_with fail
  go_loopw [3, 4] (fun v i wr => ∃ j : Nat, j ≤ es.length ∧ i = .int .i64 j ∧ Hid (wr.ownsRow w.heap.size 2 1 v (onceZ (allCh (es.take j))).length ((onceZ (allCh (es.take j))).map (Value.int .i64))) ∧ Hid (Below w.heap.size w wr)) (fun _ i _ => es.length - (intOf i).toNat)
  case atStart => exact ⟨0, Nat.zero_le _, rfl, hide (World.ownsRow_made w #[] 0 (Nat.le_refl _) (Nat.zero_le _) rfl), hide (below_alloc _ _)⟩
  case round =>
    obtain ⟨j, hj, rfl, HO, HW⟩ := hrel
    by_cases hlt : j < es.length
    · obtain ⟨b, off, e, x, cc, rfl, hb, he, c0, c1, c2, c3, hr⟩ := HA.out.at hlt
      have HX := hide he
      have HR := hide hr
      have hsm := HS.out e (List.mem_of_getElem? he)
      have HC3 := hide c3
      clear he hr c0 c1 c2 c3
      rw [← upTo_zero es j e] at HO
      go_wp2_with fail
      have hct : (allCh (es.take j)).length ≤ 512 * 1024 := by
        have h1 := allCh_le (es := es.take j) (fun y hy => HS.out y (List.mem_of_mem_take hy))
        have h2 := take_len hj
        omega
      go_loopw [3, 5] (fun v i w2 => ∃ k : Nat, k ≤ e.chunks.length ∧ i = .int .i64 k ∧ Hid (w2.ownsRow w.heap.size 2 1 v (onceZ (upTo es j e k)).length ((onceZ (upTo es j e k)).map (Value.int .i64))) ∧ Hid (Below w.heap.size w w2)) (fun _ i _ => e.chunks.length - (intOf i).toNat)
      case atStart => exact ⟨0, Nat.zero_le _, rfl, HO, HW⟩
      case round =>
        obtain ⟨k, hk, rfl, HO2, HW2⟩ := hrel
        have c3 := (HW2.out.cell (p := ⟨b, off + j * 4 + 3, none⟩) hb).trans HC3.out
        by_cases hkl : k < e.chunks.length
        · obtain ⟨p1, r1, rfl, hp1, hy1⟩ := (HR.out.below HW2.out) (by intro e; simp [e] at hkl)
          have y1 := hy1 k hkl
          have z1 : e.chunks[k]? = some (e.chunks.getD k 0) := by rw [List.getD_eq_getElem?_getD, List.getElem?_eq_getElem hkl]; rfl
          generalize e.chunks.getD k 0 = z at y1 z1
          have HU := hide ((congrArg onceZ (upTo_succ (es := es) (j := j) z1)).trans (onceZ_snoc _ z))
          have hcl := onceZ_le (upTo es j e k)
          have hcu : (upTo es j e k).length ≤ 512 * 1024 + 1024 := by unfold upTo; rw [List.length_append, List.length_take]; omega
          clear hy1 z1
          generalize onceZ (upTo es j e k) = ms at *
          obtain ⟨av, cv, rfl⟩ := ownsRow_shape HO2.out
          have RM := hide (ownInts_reads HO2.out rfl)
          have HAm := hide (l2Among_in av cv ms z _ RM.out (by omega))
          have hm1 : ms.length + 1 ≤ maxLen := by unfold maxLen; omega
          have hm2 : (ms.length + 1) * 8 ≤ 140737488355328 := by omega
          have hsz := HW2.out.size
          cases hcn : ms.contains z
          · have HN := hide (show addZ ms z = ms ++ [z] from by unfold addZ; rw [hcn]; rfl)
            rw [hcn] at HAm
            clear hcn
            go_wp2_with (first | (go_at_call 23; refine HAm.out.mono ?_; rintro r w1 ⟨rfl, rfl⟩) | (at_builtin; refine wpList_append_one rfl (.tmp 34) (.tmp 43) 25 rfl w.heap.size 2 i0 (.int .i64 0) 1 8 Tryz.underlying25 hi0 hz0 hz1 hz2 rfl (by decide) _ _ _ rfl HO2.out rfl rfl (by intro u hu; simp at hu; subst hu; rfl) hm1 hm2 hsz ?_; intro v' w3 hown2 hkept; have O2 := hide hown2; have K2 := hide hkept; clear hown2 hkept))
            go_roundw
            case rel => exact ⟨k + 1, by omega, by go_num, hide (by rw [HU.out, HN.out]; simpa using O2.out), hide (HW2.out.trans (K2.out.below hsz (fun q hq hS => by have := (HO2.out.lt _ hS).1; omega)))⟩
            case measure => simp [intOf]; omega
          · have HN := hide (show addZ ms z = ms from by unfold addZ; rw [hcn]; rfl)
            rw [hcn] at HAm
            clear hcn
            go_wp2_with (go_at_call 23; refine HAm.out.mono ?_; rintro r w1 ⟨rfl, rfl⟩)
            go_roundw
            case rel => exact ⟨k + 1, by omega, by go_num, hide (by rw [HU.out, HN.out]; exact HO2.out), HW2⟩
            case measure => simp [intOf]; omega
        · have HU := hide (upTo_end (k := k) HX.out (by omega))
          go_wp2_with fail
          go_roundw
          case rel => exact ⟨j + 1, by omega, by go_num, hide (by rw [← HU.out]; exact HO2.out), HW2⟩
          case measure => simp [intOf]; omega
    · have hE : es.take j = es := List.take_of_length_le (by omega)
      rw [hE] at HO
      clear hE
      go_wp2_with fail
      go_ret
      exact ⟨_, rfl, HO.out, HW.out⟩

theorem layFrom_all {es : List En} : ∀ {l : List En} {prev : Option En}, layFrom es prev l = 0 → ∀ e ∈ l, entFault e = 0
  | [], _, _, e, he => by simp at he
  | x :: r, prev, h, e, he => by
    simp only [layFrom] at h
    by_cases hb : entBad es prev x = 0
    · rw [if_pos hb] at h
      have hx : entFault x = 0 := by
        by_cases hx : entFault x = 0
        · exact hx
        · unfold entBad at hb; rw [if_neg hx] at hb; exact absurd hb hx
      rcases List.mem_cons.1 he with rfl | he
      · exact hx
      · exact layFrom_all h e he
    · rw [if_neg hb] at h; exact absurd h hb
theorem entFault_chunks {e : En} (h : entFault e = 0) : e.chunks.length ≤ 3 := by
  have hp := entFault_zero h
  cases h1 : formE e
  · rw [entFault_form hp h1] at h; omega
  · cases h2 : sizeE e
    · rw [entFault_size hp h1 h2] at h; omega
    · cases h3 : manyE e
      · rw [entFault_many hp h1 h2 h3] at h; omega
      · have h2' : 0 ≤ e.size ∧ e.size ≤ 24 := by simpa [sizeE] using h2
        have h3' : (e.chunks.length : Int) = (e.size + 7) / 8 := by simpa [manyE] using h3
        omega
theorem layFault_zero {es : List En} (h : layFault es = 0) : es.length ≤ 12 ∧ ∀ e ∈ es, entFault e = 0 ∧ e.chunks.length ≤ 3 := by
  unfold layFault at h
  split at h
  · omega
  · exact ⟨by omega, fun e he => ⟨layFrom_all h e he, entFault_chunks (layFrom_all h e he)⟩⟩
def ResZ (q : Int) (zs : List Int) (w : World) (r : Ending) (w' : World) : Prop :=
  ∃ av cv, r = .returned (.agg #[.int .i64 q, .slice av zs.length cv]) ∧ w'.ownsRow w.heap.size 2 1 (.slice av zs.length cv) zs.length (zs.map (Value.int .i64)) ∧ Below w.heap.size w w'
end Go.Proofs.YtejfcapocikjmaaGreatDoor

namespace Go.Proofs.YtejfcapocikjmaaGreatDoor
open Go.RowKit Go.Maps
set_option linter.unusedVariables false
attribute [local go_sem ↓] Go.wp_at_zero Go.wp_at_succ

set_option maxRecDepth 100000 in
set_option maxHeartbeats 800000 in
theorem zIndex_any (a : Option Addr) (c : Nat) (ms : List Int) (z : Int) (w : World) (h : Reads .i64 w a ms) (hl : ms.length ≤ 1048576) :
    Calls Tryz.prog 53 #[.slice a ms.length c, .int .i64 z] w fun e w' => (∃ i : Int, e = .returned (.int .i64 i) ∧ decide (0 ≤ i) = ms.contains z ∧ -1 ≤ i ∧ i ≤ 1048576) ∧ w' = w := by
  have HA := hide h
  clear h
  generalize hr : ms.contains z = r
  have HR := hide hr
  clear hr
  go_enter Tryz.func53, Tryz.ntmps53
  go_wp2
  go_loop [5, 8] (fun _ i => ∃ k : Nat, k ≤ ms.length ∧ i = .int .i64 k ∧ ∀ j, j < k → ms.getD j 0 ≠ z) (fun _ i => ms.length - (intOf i).toNat)
  case atStart => exact ⟨0, Nat.zero_le _, rfl, fun j hj => absurd hj (by omega)⟩
  case round =>
    obtain ⟨k, hk, rfl, hF⟩ := hrel
    have HF := hide hF
    clear hF
    by_cases hlt : k < ms.length
    · obtain ⟨b, off, rfl, hb1, hc⟩ := HA.out (by intro e; simp [e] at hlt)
      have hc1 := hc k hlt
      generalize hy : ms.getD k 0 = y at hc1
      have HY := hide hy
      clear hy hc
      by_cases e : y = z
      · have e' : (z == y) = true := by simpa using e.symm
        have HE := hide e
        clear e
        go_wp2
        go_ret
        exact ⟨⟨_, rfl, by rw [← HR.out, has_hit hlt (HY.out.trans HE.out)]; simp, by omega, by omega⟩, rfl⟩
      · have e' : (z == y) = false := by simpa using fun h => e h.symm
        go_wp2
        go_round
        case rel => exact ⟨k + 1, by omega, by go_num, fun j hj => by
          by_cases ej : j = k
          · subst ej; rw [HY.out]; exact e
          · exact HF.out j (by omega)⟩
        case measure => simp [intOf]; omega
    · go_wp2
      go_ret
      exact ⟨⟨_, rfl, by rw [← HR.out, has_upto (fun j hj => HF.out j (by omega))]; simp, by omega, by omega⟩, rfl⟩

set_option maxRecDepth 100000 in
set_option maxHeartbeats 800000 in
theorem zContains_any (a : Option Addr) (c : Nat) (ms : List Int) (z : Int) (w : World) (h : Reads .i64 w a ms) (hl : ms.length ≤ 1048576) :
    Calls Tryz.prog 26 #[.slice a ms.length c, .int .i64 z] w fun e w' => e = .returned (.bool (ms.contains z)) ∧ w' = w := by
  have HC := hide (zIndex_any a c ms z w h hl)
  clear h
  generalize ms.contains z = r at *
  go_enter Tryz.func26, Tryz.ntmps26
  go_wp2_with fail
  refine HC.out.mono ?_
  rintro e w1 ⟨⟨i, rfl, hi, h1, h2⟩, rfl⟩
  subst hi
  go_wp2_with fail
  go_ret
  exact ⟨rfl, rfl⟩

def chunksListP (es : List En) : List Int := if layFaultP es = 0 then onceZ (allCh es) else []
set_option maxRecDepth 100000 in
set_option maxHeartbeats 3200000 in
theorem implChunksIn_any (a : Option Addr) (c n : Nat) (es : List En) (w : World) (h : RdE w a es) (hn : n = es.length) (hl : es.length ≤ 1048576) (hs : SmallE es) :
    Calls Tryz.prog 8 #[.slice a n c] w (ResZ (layFaultP es) (chunksListP es) w) := by
  subst hn
  obtain ⟨i0, hi0, hz0, hz1, hz2⟩ := info_parts Tryz.infoI64
  have X0 := hide (Box.new w (.int .i64 0) (.slice none 0 0) 36)
  have B0 := hide (below_alloc w (.cells #[.int .i64 0, .slice none 0 0] 36))
  have HR := hide h
  have HS := hide hs
  clear h hs
  go_enter Tryz.func8, Tryz.ntmps8
  go_wp2_with fail
  refine (implLayerFault_any a c es.length es _ (HR.out.below B0.out) rfl hl HS.out).mono ?_
  rintro r w1 ⟨rfl, hb1⟩
  have B1 := hide (below_next B0.out hb1)
  have X1 := hide (X0.out.below hb1)
  clear hb1 X0 B0
  by_cases hz : layFaultP es = 0
  · have HCC := hide (show layFaultP es = 0 ∧ chunksListP es = onceZ (allCh es) from ⟨hz, by rw [chunksListP, if_pos hz]⟩)
    have HRi := hide (right_P.1 hz)
    have hl12 := HRi.out.len
    have HCh := hide (fun e he => entFault_chunks (HRi.out.ent e he))
    rw [hz]
    clear hz
    have hb0 : w.heap.size < w1.heap.size := X1.out.1.lt
    have HA := hide (HR.out.below B1.out)
    go_wp2_with fail
    go_loopw [4, 17] (fun v i wr => ∃ j : Nat, j ≤ es.length ∧ i = .int .i64 j ∧ Hid (wr.ownsRow w1.heap.size 2 1 v (onceZ (allCh (es.take j))).length ((onceZ (allCh (es.take j))).map (Value.int .i64))) ∧ Hid (Below w1.heap.size w1 wr)) (fun _ i _ => es.length - (intOf i).toNat)
    case atStart => exact ⟨0, Nat.zero_le _, rfl, hide (World.ownsRow_nil _ _ _ _), hide (Below.refl _ _)⟩
    case round =>
      obtain ⟨j, hj, rfl, HO, HW⟩ := hrel
      by_cases hlt : j < es.length
      · obtain ⟨b, off, e, x, cc, rfl, hb0', he, c0', c1', c2', c3', hr⟩ := HA.out.at hlt
        have c0 := (HW.out.cell (p := ⟨b, off + j * 4, none⟩) hb0').trans c0'
        have c1 := (HW.out.cell (p := ⟨b, off + j * 4 + 1, none⟩) hb0').trans c1'
        have c2 := (HW.out.cell (p := ⟨b, off + j * 4 + 2, none⟩) hb0').trans c2'
        have c3 := (HW.out.cell (p := ⟨b, off + j * 4 + 3, none⟩) hb0').trans c3'
        clear c0' c1' c2' c3'
        have HX := hide he
        have BA := hide (below_alloc wr (.cells #[.string (str e.path), .int .i64 e.kind, .int .i64 e.size, .slice x e.chunks.length cc] 62))
        have HRc := hide hr
        have hsm := HCh.out e (List.mem_of_getElem? he)
        clear he hr
        rw [← upTo_zero es j e] at HO
        have HO1 := hide (ownsRow_below HO.out BA.out)
        have HW1 := hide (below_next HW.out BA.out)
        go_wp2_with fail
        clear c0 c1 c2 c3
        generalize wr.alloc (.cells #[.string (str e.path), .int .i64 e.kind, .int .i64 e.size, .slice x e.chunks.length cc] 62) = W at *
        have hct : (allCh (es.take j)).length ≤ 12 * 1024 := by
          have h1 := allCh_le (es := es.take j) (fun y hy => by have := HCh.out y (List.mem_of_mem_take hy); omega)
          have h2 := take_len hj
          omega
        go_loopw [4, 24] (fun v i w2 => ∃ k : Nat, k ≤ e.chunks.length ∧ i = .int .i64 k ∧ Hid (w2.ownsRow w1.heap.size 2 1 v (onceZ (upTo es j e k)).length ((onceZ (upTo es j e k)).map (Value.int .i64))) ∧ Hid (Below w1.heap.size w1 w2)) (fun _ i _ => e.chunks.length - (intOf i).toNat)
        case atStart => exact ⟨0, Nat.zero_le _, rfl, HO1, HW1⟩
        case round =>
          obtain ⟨k, hk, rfl, HO2, HW2⟩ := hrel
          by_cases hkl : k < e.chunks.length
          · obtain ⟨p1, r1, rfl, hp1, hy1⟩ := (HRc.out.below HW2.out) (by intro e; simp [e] at hkl)
            have y1 := hy1 k hkl
            have z1 : e.chunks[k]? = some (e.chunks.getD k 0) := by rw [List.getD_eq_getElem?_getD, List.getElem?_eq_getElem hkl]; rfl
            generalize e.chunks.getD k 0 = z at y1 z1
            have HU := hide ((congrArg onceZ (upTo_succ (es := es) (j := j) z1)).trans (onceZ_snoc _ z))
            have hcl := onceZ_le (upTo es j e k)
            have hcu : (upTo es j e k).length ≤ 12 * 1024 + 1024 := by unfold upTo; rw [List.length_append, List.length_take]; omega
            clear hy1 z1
            generalize onceZ (upTo es j e k) = ms at *
            obtain ⟨av, cv, rfl⟩ := ownsRow_shape HO2.out
            have RM := hide (ownInts_reads HO2.out rfl)
            have HAm := hide (zContains_any av cv ms z _ RM.out (by omega))
            have hm1 : ms.length + 1 ≤ maxLen := by unfold maxLen; omega
            have hm2 : (ms.length + 1) * 8 ≤ 140737488355328 := by omega
            have hsz := HW2.out.size
            cases hcn : ms.contains z
            · have HN := hide (show addZ ms z = ms ++ [z] from by unfold addZ; rw [hcn]; rfl)
              rw [hcn] at HAm
              clear hcn
              go_wp2_with (first | (go_at_call 26; refine HAm.out.mono ?_; rintro r w9 ⟨rfl, rfl⟩) | (at_builtin; refine wpList_append_one rfl (.tmp 32) (.tmp 34) 25 rfl w1.heap.size 2 i0 (.int .i64 0) 1 8 Tryz.underlying25 hi0 hz0 hz1 hz2 rfl (by decide) _ _ _ rfl HO2.out rfl rfl (by intro u hu; simp at hu; subst hu; rfl) hm1 hm2 hsz ?_; intro v' w3 hown2 hkept; have O2 := hide hown2; have K2 := hide hkept; clear hown2 hkept))
              go_roundw
              case rel => exact ⟨k + 1, by omega, by go_num, hide (by rw [HU.out, HN.out]; simpa using O2.out), hide (HW2.out.trans (K2.out.below hsz (fun q hq hS => by have := (HO2.out.lt _ hS).1; omega)))⟩
              case measure => simp [intOf]; omega
            · have HN := hide (show addZ ms z = ms from by unfold addZ; rw [hcn]; rfl)
              rw [hcn] at HAm
              clear hcn
              go_wp2_with (go_at_call 26; refine HAm.out.mono ?_; rintro r w9 ⟨rfl, rfl⟩)
              go_roundw
              case rel => exact ⟨k + 1, by omega, by go_num, hide (by rw [HU.out, HN.out]; exact HO2.out), HW2⟩
              case measure => simp [intOf]; omega
          · have HU := hide (upTo_end (k := k) HX.out (by omega))
            go_wp2_with fail
            go_roundw
            case rel => exact ⟨j + 1, by omega, by go_num, hide (by rw [← HU.out]; exact HO2.out), HW2⟩
            case measure => simp [intOf]; omega
      · have hE : es.take j = es := List.take_of_length_le (by omega)
        rw [hE] at HO
        clear hE
        obtain ⟨av, cv, rfl⟩ := ownsRow_shape HO.out
        obtain ⟨⟨t0, t1⟩, t2, t3⟩ := X1.out.below HW.out
        have B3 := hide (below_next B1.out HW.out)
        go_wp2_with fail
        refine bodyPost_ret (v := .agg #[.int .i64 0, .slice av (onceZ (allCh es)).length cv]) (by simp [results, Tryz.results8, go_sem, t0, t1]) rfl ?_
        rw [HCC.out.1, HCC.out.2]
        refine ⟨av, cv, rfl, ?_, (B3.out.setCell (Nat.le_refl _) _).setCell (Nat.le_refl _) _⟩
        exact ownsRow_mono (ownsRow_kept (S := fun b => b = w.heap.size) HO.out (Kept.two _ _ _ _ _ _) (fun b hb e => by have := (HO.out.lt b hb).1; omega)) (by omega)
  · have HCC := hide (show chunksListP es = [] from by rw [chunksListP, if_neg hz])
    generalize layFaultP es = F at *
    have hz2 : (F != 0) = true := by simp; exact hz
    clear hz
    obtain ⟨⟨t0, t1⟩, t2, t3⟩ := X1.out
    go_wp2_with fail
    refine bodyPost_ret (v := .agg #[.int .i64 F, .slice none 0 0]) (by simp [results, Tryz.results8, go_sem, t0, t1]) rfl ?_
    rw [HCC.out]
    exact ⟨none, 0, rfl, World.ownsRow_nil _ _ _ _, (B1.out.setCell (Nat.le_refl _) _).setCell (Nat.le_refl _) _⟩

end Go.Proofs.YtejfcapocikjmaaGreatDoor

namespace Go.Proofs.YtejfcapocikjmaaGreatDoor
open Go.RowKit Go.Maps
set_option linter.unusedVariables false
theorem askW_len {F K : List Int} : ∀ {W : List Wn} {ds : List Int}, W.length ≤ 1048576 → (askW F K W ds).1.length ≤ 1048576
  | W, [], h => h
  | W, d :: ds, h => by
    rw [askW]
    split
    · exact askW_len h
    · split
      · exact askW_len h
      · split
        · exact h
        · exact askW_len (by simp; omega)
set_option maxRecDepth 100000 in
set_option maxHeartbeats 6400000 in
theorem implAskLayer_bad (wa : Option Addr) (wk : Nat) (W : List Wn) (fa : Option Addr) (fc : Nat) (F : List Int) (ca : Option Addr) (cc n : Nat) (D : Nat → Int) (P : Nat → List Int) (la : Option Addr) (lc ln : Nat) (w : World) (h : RdF w wa W fa F ca D P n) (hn : n ≤ 1048576) (hP : SmallP P n) (hWl : W.length ≤ 1048576) (hFl : F.length ≤ 1048576) (hz : fetFault W F D P n ≠ 0) :
    Calls Tryz.prog 6 #[fetV wa W.length wk fa F.length fc ca n cc, .slice la ln lc] w (ResF (fetFault W F D P n) [] [] D P 0 w) := by
  have B0 := hide (below_next (below_alloc w (.cells #[.slice wa W.length wk, .slice fa F.length fc, .slice ca n cc] 28)) (below_alloc _ (.cells #[.int .i64 0, .slice none 0 0, .slice none 0 0, .slice none 0 0] 33)))
  have X0 := hide ((Bx3.new w (.slice wa W.length wk) (.slice fa F.length fc) (.slice ca n cc) 28).below (below_alloc _ (.cells #[.int .i64 0, .slice none 0 0, .slice none 0 0, .slice none 0 0] 33)))
  have R0 := hide (Bx4.new (w.alloc (.cells #[.slice wa W.length wk, .slice fa F.length fc, .slice ca n cc] 28)) (.int .i64 0) (.slice none 0 0) (.slice none 0 0) (.slice none 0 0) 33)
  have hs : (w.alloc (.cells #[.slice wa W.length wk, .slice fa F.length fc, .slice ca n cc] 28)).heap.size = w.heap.size + 1 := by simp
  rw [hs] at R0
  clear hs
  have HFF := hide (implFetchFault_any wa wk W fa fc F ca cc n D P _ (h.below B0.out) hn hP hWl hFl)
  clear h hP
  unfold fetV at HFF ⊢
  have hz1 : (fetFault W F D P n != 0) = true := by simpa using hz
  generalize fetFault W F D P n = A at *
  clear hz
  go_enter Tryz.func6, Tryz.ntmps6
  obtain ⟨⟨t0, t1, t2⟩, -, -, -⟩ := X0.out
  go_wp2_with fail
  clear t0 t1 t2
  generalize (w.alloc (.cells #[.slice wa W.length wk, .slice fa F.length fc, .slice ca n cc] 28)).alloc (.cells #[.int .i64 0, .slice none 0 0, .slice none 0 0, .slice none 0 0] 33) = W0 at *
  refine HFF.out.mono ?_
  rintro e w1 ⟨rfl, hb1⟩
  have B1 := hide (below_next B0.out hb1)
  have X1 := hide (X0.out.below hb1)
  have R1 := hide (R0.out.below hb1)
  clear hb1 X0 R0 B0 HFF
  obtain ⟨⟨m0, m1, m2, m3⟩, k0, k1, k2, k3⟩ := R1.out
  go_wp2_with fail
  have hk := Kept.fourF w1 (w.heap.size + 1) (.int .i64 A) (.slice none 0 0) (.slice none 0 0) (.slice none 0 0)
  exact bodyPost_ret (v := .agg #[.int .i64 A, .slice none 0 0, .slice none 0 0, .slice none 0 0]) (by simp [results, Tryz.results6, go_sem, m0, m1, m2, m3]) rfl (ResF.bad (B1.out.trans (hk.below (B := w.heap.size) B1.out.size (fun k hk e => by omega))))
set_option maxRecDepth 100000 in
set_option maxHeartbeats 6400000 in
theorem implAskLayer_lay (wa : Option Addr) (wk : Nat) (W : List Wn) (fa : Option Addr) (fc : Nat) (F : List Int) (ca : Option Addr) (cc n : Nat) (D : Nat → Int) (P : Nat → List Int) (la : Option Addr) (lc : Nat) (es : List En) (w : World) (h : RdF w wa W fa F ca D P n) (hL : RdE w la es) (hel : es.length ≤ 1048576) (hes : SmallE es) (hn : n ≤ 1048576) (hP : SmallP P n) (hWl : W.length ≤ 1048576) (hFl : F.length ≤ 1048576) (hz : fetFault W F D P n = 0) (hq : layFaultP es ≠ 0) :
    Calls Tryz.prog 6 #[fetV wa W.length wk fa F.length fc ca n cc, .slice la es.length lc] w (ResF (layFaultP es) [] [] D P 0 w) := by
  have B0 := hide (below_next (below_alloc w (.cells #[.slice wa W.length wk, .slice fa F.length fc, .slice ca n cc] 28)) (below_alloc _ (.cells #[.int .i64 0, .slice none 0 0, .slice none 0 0, .slice none 0 0] 33)))
  have X0 := hide ((Bx3.new w (.slice wa W.length wk) (.slice fa F.length fc) (.slice ca n cc) 28).below (below_alloc _ (.cells #[.int .i64 0, .slice none 0 0, .slice none 0 0, .slice none 0 0] 33)))
  have R0 := hide (Bx4.new (w.alloc (.cells #[.slice wa W.length wk, .slice fa F.length fc, .slice ca n cc] 28)) (.int .i64 0) (.slice none 0 0) (.slice none 0 0) (.slice none 0 0) 33)
  have hs : (w.alloc (.cells #[.slice wa W.length wk, .slice fa F.length fc, .slice ca n cc] 28)).heap.size = w.heap.size + 1 := by simp
  rw [hs] at R0
  clear hs
  have HFF := hide (implFetchFault_any wa wk W fa fc F ca cc n D P _ (h.below B0.out) hn hP hWl hFl)
  rw [hz] at HFF
  have HCI := hide (fun (u : World) (hu : Below w.heap.size w u) => implChunksIn_any la lc es.length es u (hL.below hu) rfl hel hes)
  have hz1 : (layFaultP es != 0) = true := by simpa using hq
  generalize layFaultP es = A at *
  generalize chunksListP es = ds at *
  clear h hP hz hq hL
  unfold fetV at HFF ⊢
  go_enter Tryz.func6, Tryz.ntmps6
  obtain ⟨⟨t0, t1, t2⟩, -, -, -⟩ := X0.out
  go_wp2_with fail
  clear t0 t1 t2
  generalize (w.alloc (.cells #[.slice wa W.length wk, .slice fa F.length fc, .slice ca n cc] 28)).alloc (.cells #[.int .i64 0, .slice none 0 0, .slice none 0 0, .slice none 0 0] 33) = W0 at *
  refine HFF.out.mono ?_
  rintro e w1 ⟨rfl, hb1⟩
  have B1 := hide (below_next B0.out hb1)
  have X1 := hide (X0.out.below hb1)
  have R1 := hide (R0.out.below hb1)
  clear hb1 X0 R0 B0 HFF
  go_wp2_with fail
  refine (HCI.out w1 B1.out).mono ?_
  rintro e w2 ⟨av, cv, rfl, hO2, hb2⟩
  have B2 := hide (below_next B1.out hb2)
  have R2 := hide (R1.out.below hb2)
  have hlt2 := R2.out.lt
  have hne1 : ¬ w2.heap.size = w.heap.size + 1 := by omega
  have hne2 : ¬ w.heap.size + 1 = w2.heap.size := by omega
  clear hO2 hb2 X1 R1 B1 HCI
  obtain ⟨⟨m0, m1, m2, m3⟩, k0, k1, k2, k3⟩ := R2.out
  have A2 := hide (below_alloc w2 (.cells #[.int .i64 0, .slice none 0 0] 36))
  obtain ⟨⟨n0, n1, n2, n3⟩, j0, j1, j2, j3⟩ := R2.out.below A2.out
  go_wp2_with fail
  have hk := Kept.fourF w2 (w.heap.size + 1) (.int .i64 A) (.slice none 0 0) (.slice none 0 0) (.slice none 0 0)
  exact bodyPost_ret (v := .agg #[.int .i64 A, .slice none 0 0, .slice none 0 0, .slice none 0 0]) (by simp [results, Tryz.results6, go_sem, m0, m1, m2, m3, hlt2]) rfl (ResF.bad (below_next (B2.out.trans (hk.below (B := w.heap.size) B2.out.size (fun k hk e => by omega))) (below_alloc _ _)))
set_option maxRecDepth 100000 in
set_option maxHeartbeats 6400000 in
theorem implAskLayer_many (wa : Option Addr) (wk : Nat) (W : List Wn) (fa : Option Addr) (fc : Nat) (F : List Int) (ca : Option Addr) (cc n : Nat) (D : Nat → Int) (P : Nat → List Int) (la : Option Addr) (lc : Nat) (es : List En) (w : World) (a0 a1 : Addr) (hg : Ge w a0 a1) (h : RdF w wa W fa F ca D P n) (hL : RdE w la es) (hel : es.length ≤ 1048576) (hes : SmallE es) (hn : n ≤ 1048576) (hP : SmallP P n) (hWl : W.length ≤ 1048576) (hFl : F.length ≤ 1048576) (hz : fetFault W F D P n = 0) (hR : RightC D P n) (hq : layFaultP es = 0) (hdl : (chunksListP es).length ≤ 1048576) (hok : ∀ d ∈ chunksListP es, okD d) (ha : (askW F (keysC D n) W (chunksListP es)).2 = false) :
    Calls Tryz.prog 6 #[fetV wa W.length wk fa F.length fc ca n cc, .slice la es.length lc] w (ResF 2 [] [] D P 0 w) := by
  have B0 := hide (below_next (below_alloc w (.cells #[.slice wa W.length wk, .slice fa F.length fc, .slice ca n cc] 28)) (below_alloc _ (.cells #[.int .i64 0, .slice none 0 0, .slice none 0 0, .slice none 0 0] 33)))
  have X0 := hide ((Bx3.new w (.slice wa W.length wk) (.slice fa F.length fc) (.slice ca n cc) 28).below (below_alloc _ (.cells #[.int .i64 0, .slice none 0 0, .slice none 0 0, .slice none 0 0] 33)))
  have R0 := hide (Bx4.new (w.alloc (.cells #[.slice wa W.length wk, .slice fa F.length fc, .slice ca n cc] 28)) (.int .i64 0) (.slice none 0 0) (.slice none 0 0) (.slice none 0 0) 33)
  have hs : (w.alloc (.cells #[.slice wa W.length wk, .slice fa F.length fc, .slice ca n cc] 28)).heap.size = w.heap.size + 1 := by simp
  rw [hs] at R0
  clear hs
  have HFF := hide (implFetchFault_any wa wk W fa fc F ca cc n D P _ (h.below B0.out) hn hP hWl hFl)
  rw [hz] at HFF
  have HCI := hide (fun (u : World) (hu : Below w.heap.size w u) => implChunksIn_any la lc es.length es u (hL.below hu) rfl hel hes)
  rw [hq] at HCI
  have HFO := hide (fun (u : World) (hu : Below w.heap.size w u) => fetchingOf_any wa wk W fa fc F ca cc n D P u (h.below hu) hR hWl hFl)
  have HRt := hide hR
  have HG := hide hg
  have HO := hide hok
  have HA : Hid ((askW F ((lst D P n).map Prod.fst) W (chunksListP es)).2 = false) := hide (by rw [keys_lst]; exact ha)
  have HAL : Hid ((askW F ((lst D P n).map Prod.fst) W (chunksListP es)).1.length ≤ 1048576) := hide (askW_len hWl)
  generalize chunksListP es = ds at *
  clear h hP hz hq hL hR hg hok ha
  unfold fetV at HFF HFO ⊢
  go_enter Tryz.func6, Tryz.ntmps6
  obtain ⟨⟨t0, t1, t2⟩, -, -, -⟩ := X0.out
  go_wp2_with fail
  clear t0 t1 t2
  generalize (w.alloc (.cells #[.slice wa W.length wk, .slice fa F.length fc, .slice ca n cc] 28)).alloc (.cells #[.int .i64 0, .slice none 0 0, .slice none 0 0, .slice none 0 0] 33) = W0 at *
  refine HFF.out.mono ?_
  rintro e w1 ⟨rfl, hb1⟩
  have B1 := hide (below_next B0.out hb1)
  have X1 := hide (X0.out.below hb1)
  have R1 := hide (R0.out.below hb1)
  clear hb1 X0 R0 B0 HFF
  go_wp2_with fail
  refine (HCI.out w1 B1.out).mono ?_
  rintro e w2 ⟨av, cv, rfl, hO2, hb2⟩
  have AL := hide (below_alloc w2 (.cells #[.int .i64 0, .slice av ds.length cv] 36))
  have B2 := hide (below_next (below_next B1.out hb2) AL.out)
  have X2 := hide ((X1.out.below hb2).below AL.out)
  have R2 := hide ((R1.out.below hb2).below AL.out)
  have D2 := hide ((ownsRow_own (ownsRow_below hO2 AL.out) rfl).reads)
  have NB : Hid (Two (w2.alloc (.cells #[.int .i64 0, .slice av ds.length cv] 36)) w2.heap.size (.int .i64 0) (.slice av ds.length cv)) := hide ⟨by simp, by simp⟩
  obtain ⟨⟨t0, t1, t2⟩, -, -, -⟩ := (X1.out.below hb2)
  obtain ⟨⟨s0, s1, s2⟩, -, -, -⟩ := X2.out
  have hlx := (X1.out.below hb2).lt
  have hne1 : ¬ w2.heap.size = w.heap.size := by omega
  have hne2 : ¬ w.heap.size = w2.heap.size := by omega
  clear hO2 hb2 X1 R1 B1 HCI
  go_wp2_with fail
  clear t0 t1 t2 s0 s1 s2 hne1 hne2 AL
  obtain ⟨nb, hnb⟩ : ∃ nb, nb = w2.heap.size := ⟨_, rfl⟩
  rw [← hnb] at NB ⊢
  clear hnb hlx
  generalize w2.alloc (.cells #[.int .i64 0, .slice av ds.length cv] 36) = W2 at *
  refine (HFO.out W2 B2.out).mono ?_
  rintro e w3 ⟨fb, rfl, hOF, hfb, hb3⟩
  obtain ⟨va, vc, ps, ga, gc, bm, N, hN, hN1000⟩ := hOF.now
  have B3 := hide (below_next B2.out hb3)
  have R3 := hide (R2.out.below hb3)
  have hbx := NB.out
  have NB3 := hide (And.intro ((hb3.cell (p := ⟨nb, 0, none⟩) (World.block_lt_of_cell? _ _ hbx.1)).trans hbx.1) ((hb3.cell (p := ⟨nb, 1, none⟩) (World.block_lt_of_cell? _ _ hbx.2)).trans hbx.2))
  have HAS := hide (askAll_any W2.heap.size fb W F (lst D P n) va vc ps ga gc bm N av cv ds W2 w3 a0 a1 (HG.out.below B2.out) D2.out hb3 hfb hN hfb hWl hFl hdl HO.out)
  rw [HA.out] at HAS
  have hz3 := hb3.size
  have hr3 := R2.out.lt
  have hzw := B2.out.size
  have hfl := hN.box.lt
  clear hb3 hN hOF R2 HFO hbx
  obtain ⟨c0, c1⟩ := NB3.out
  generalize askW F ((lst D P n).map Prod.fst) W ds = V at *
  go_wp2_with fail
  refine HAS.out.mono ?_
  rintro e w4 ⟨rfl, ⟨ua, uc, ps4, hN4⟩, hb4⟩
  have N4 := hide hN4
  have hz4 := hb4.size
  have B4 := hide (B3.out.trans (hb4.mono (by omega)))
  have R4 := hide (R3.out.kept (S := fun b => fb ≤ b) ⟨hb4.os, hb4.tape, hb4.output, hb4.size, fun k hk hn => hb4.block k (by omega)⟩ (by omega))
  clear hb4 hN4 HAS R3 c0 c1 NB3
  have HAE := hide (answer_err fb 221 (.pointer (some a1)) 2 w4 (fun u hu => fetchCode_noRoom a0 a1 u (HG.out.below (below_next B4.out hu))))
  go_wp2_with fail
  refine HAE.out.mono ?_
  rintro e w5 ⟨rfl, hb5⟩
  have B5 := hide (below_next B4.out hb5)
  have R5 := hide (R4.out.below hb5)
  clear hb5
  obtain ⟨⟨m0, m1, m2, m3⟩, k0, k1, k2, k3⟩ := R5.out
  go_wp2_with fail
  have hk := Kept.fourF w5 (w.heap.size + 1) (.int .i64 2) (.slice none 0 0) (.slice none 0 0) (.slice none 0 0)
  exact bodyPost_ret (v := .agg #[.int .i64 2, .slice none 0 0, .slice none 0 0, .slice none 0 0]) (by simp [results, Tryz.results6, go_sem, m0, m1, m2, m3]) rfl (ResF.bad (B5.out.trans (hk.below (B := w.heap.size) B5.out.size (fun k hk e => by omega))))
set_option maxRecDepth 100000 in
set_option maxHeartbeats 6400000 in
theorem implAskLayer_ok (wa : Option Addr) (wk : Nat) (W : List Wn) (fa : Option Addr) (fc : Nat) (F : List Int) (ca : Option Addr) (cc n : Nat) (D : Nat → Int) (P : Nat → List Int) (la : Option Addr) (lc : Nat) (es : List En) (w : World) (a0 a1 : Addr) (hg : Ge w a0 a1) (h : RdF w wa W fa F ca D P n) (hL : RdE w la es) (hel : es.length ≤ 1048576) (hes : SmallE es) (hn : n ≤ 1048576) (hP : SmallP P n) (hWl : W.length ≤ 1048576) (hFl : F.length ≤ 1048576) (hz : fetFault W F D P n = 0) (hR : RightC D P n) (hq : layFaultP es = 0) (hdl : (chunksListP es).length ≤ 1048576) (hok : ∀ d ∈ chunksListP es, okD d) (ha : (askW F (keysC D n) W (chunksListP es)).2 = true) :
    Calls Tryz.prog 6 #[fetV wa W.length wk fa F.length fc ca n cc, .slice la es.length lc] w (ResF 0 (askW F (keysC D n) W (chunksListP es)).1 F D P n w) := by
  have B0 := hide (below_next (below_alloc w (.cells #[.slice wa W.length wk, .slice fa F.length fc, .slice ca n cc] 28)) (below_alloc _ (.cells #[.int .i64 0, .slice none 0 0, .slice none 0 0, .slice none 0 0] 33)))
  have X0 := hide ((Bx3.new w (.slice wa W.length wk) (.slice fa F.length fc) (.slice ca n cc) 28).below (below_alloc _ (.cells #[.int .i64 0, .slice none 0 0, .slice none 0 0, .slice none 0 0] 33)))
  have R0 := hide (Bx4.new (w.alloc (.cells #[.slice wa W.length wk, .slice fa F.length fc, .slice ca n cc] 28)) (.int .i64 0) (.slice none 0 0) (.slice none 0 0) (.slice none 0 0) 33)
  have hs : (w.alloc (.cells #[.slice wa W.length wk, .slice fa F.length fc, .slice ca n cc] 28)).heap.size = w.heap.size + 1 := by simp
  rw [hs] at R0
  clear hs
  have HFF := hide (implFetchFault_any wa wk W fa fc F ca cc n D P _ (h.below B0.out) hn hP hWl hFl)
  rw [hz] at HFF
  have HCI := hide (fun (u : World) (hu : Below w.heap.size w u) => implChunksIn_any la lc es.length es u (hL.below hu) rfl hel hes)
  rw [hq] at HCI
  have HFO := hide (fun (u : World) (hu : Below w.heap.size w u) => fetchingOf_any wa wk W fa fc F ca cc n D P u (h.below hu) hR hWl hFl)
  have HRt := hide hR
  have HG := hide hg
  have HO := hide hok
  have HA : Hid ((askW F ((lst D P n).map Prod.fst) W (chunksListP es)).2 = true) := hide (by rw [keys_lst]; exact ha)
  have HAL : Hid ((askW F ((lst D P n).map Prod.fst) W (chunksListP es)).1.length ≤ 1048576) := hide (askW_len hWl)
  obtain ⟨V1, hV1⟩ : ∃ V1, V1 = (askW F (keysC D n) W (chunksListP es)).1 := ⟨_, rfl⟩
  rw [← hV1]
  rw [← keys_lst D P n] at hV1
  have HV1 := hide hV1
  clear hV1
  generalize chunksListP es = ds at *
  clear h hP hz hq hL hR hg hok ha
  unfold fetV at HFF HFO ⊢
  go_enter Tryz.func6, Tryz.ntmps6
  obtain ⟨⟨t0, t1, t2⟩, -, -, -⟩ := X0.out
  go_wp2_with fail
  clear t0 t1 t2
  generalize (w.alloc (.cells #[.slice wa W.length wk, .slice fa F.length fc, .slice ca n cc] 28)).alloc (.cells #[.int .i64 0, .slice none 0 0, .slice none 0 0, .slice none 0 0] 33) = W0 at *
  refine HFF.out.mono ?_
  rintro e w1 ⟨rfl, hb1⟩
  have B1 := hide (below_next B0.out hb1)
  have X1 := hide (X0.out.below hb1)
  have R1 := hide (R0.out.below hb1)
  clear hb1 X0 R0 B0 HFF
  go_wp2_with fail
  refine (HCI.out w1 B1.out).mono ?_
  rintro e w2 ⟨av, cv, rfl, hO2, hb2⟩
  have AL := hide (below_alloc w2 (.cells #[.int .i64 0, .slice av ds.length cv] 36))
  have B2 := hide (below_next (below_next B1.out hb2) AL.out)
  have X2 := hide ((X1.out.below hb2).below AL.out)
  have R2 := hide ((R1.out.below hb2).below AL.out)
  have D2 := hide ((ownsRow_own (ownsRow_below hO2 AL.out) rfl).reads)
  have NB : Hid (Two (w2.alloc (.cells #[.int .i64 0, .slice av ds.length cv] 36)) w2.heap.size (.int .i64 0) (.slice av ds.length cv)) := hide ⟨by simp, by simp⟩
  obtain ⟨⟨t0, t1, t2⟩, -, -, -⟩ := (X1.out.below hb2)
  obtain ⟨⟨s0, s1, s2⟩, -, -, -⟩ := X2.out
  have hlx := (X1.out.below hb2).lt
  have hne1 : ¬ w2.heap.size = w.heap.size := by omega
  have hne2 : ¬ w.heap.size = w2.heap.size := by omega
  clear hO2 hb2 X1 R1 B1 HCI
  go_wp2_with fail
  clear t0 t1 t2 s0 s1 s2 hne1 hne2 AL
  obtain ⟨nb, hnb⟩ : ∃ nb, nb = w2.heap.size := ⟨_, rfl⟩
  rw [← hnb] at NB ⊢
  clear hnb hlx
  generalize w2.alloc (.cells #[.int .i64 0, .slice av ds.length cv] 36) = W2 at *
  refine (HFO.out W2 B2.out).mono ?_
  rintro e w3 ⟨fb, rfl, hOF, hfb, hb3⟩
  obtain ⟨va, vc, ps, ga, gc, bm, N, hN, hN1000⟩ := hOF.now
  have B3 := hide (below_next B2.out hb3)
  have R3 := hide (R2.out.below hb3)
  have hbx := NB.out
  have NB3 := hide (And.intro ((hb3.cell (p := ⟨nb, 0, none⟩) (World.block_lt_of_cell? _ _ hbx.1)).trans hbx.1) ((hb3.cell (p := ⟨nb, 1, none⟩) (World.block_lt_of_cell? _ _ hbx.2)).trans hbx.2))
  have HAS := hide (askAll_any W2.heap.size fb W F (lst D P n) va vc ps ga gc bm N av cv ds W2 w3 a0 a1 (HG.out.below B2.out) D2.out hb3 hfb hN hfb hWl hFl hdl HO.out)
  rw [HA.out] at HAS
  have hz3 := hb3.size
  have hr3 := R2.out.lt
  have hzw := B2.out.size
  have hfl := hN.box.lt
  clear hb3 hN hOF R2 HFO hbx
  obtain ⟨c0, c1⟩ := NB3.out
  generalize askW F ((lst D P n).map Prod.fst) W ds = V at *
  go_wp2_with fail
  refine HAS.out.mono ?_
  rintro e w4 ⟨rfl, ⟨ua, uc, ps4, hN4⟩, hb4⟩
  have N4 := hide hN4
  have hz4 := hb4.size
  have B4 := hide (B3.out.trans (hb4.mono (by omega)))
  have R4 := hide (R3.out.kept (S := fun b => fb ≤ b) ⟨hb4.os, hb4.tape, hb4.output, hb4.size, fun k hk hn => hb4.block k (by omega)⟩ (by omega))
  clear hb4 hN4 HAS R3 c0 c1 NB3
  rw [← HV1.out] at HAL N4
  have hl2 : (lst D P n).length = n := lst_length D P n
  have HAN := hide (answer_nil fb ua uc ps4 V1 ga gc F.length bm N W2.heap.size (lst D P n) w4 N4.out.box N4.out.wants.rd N4.out.held (by have := B4.out.size; omega) HAL.out (by rw [hl2]; exact hn) (lst_small HRt.out))
  go_wp2_with fail
  refine HAN.out.mono ?_
  rintro e w5 ⟨xa, xc, ya, yc, rfl, hOW, hGC, hb5⟩
  rw [hl2] at hGC ⊢
  have OW5 := hide hOW
  have GC5 := hide (gc_right HRt.out hGC)
  have OF5 := hide (ownsRow_below N4.out.failed hb5)
  have B5 := hide (below_next B4.out hb5)
  obtain ⟨⟨m0, m1, m2, m3⟩, k0, k1, k2, k3⟩ := R4.out.below hb5
  have hz5 := hb5.size
  clear hOW hGC hb5
  go_wp2_with fail
  exact bodyPost_ret (v := .agg #[.int .i64 0, .slice xa V1.length xc, .slice ga F.length gc, .slice ya n yc]) (by simp [results, Tryz.results6, go_sem, m0, m1, m2, m3]) rfl (ResF.box (B := W2.heap.size) (b := w.heap.size + 1) (OW5.out.mono (by omega)) OF5.out (GC5.out.mono (by omega)) B5.out (by omega) (by omega))
end Go.Proofs.YtejfcapocikjmaaGreatDoor

