/-
  Texts put together: EntQ LayR DrawE EntX DrawG EntH.
-/
import Derived.Test.YtejipahfodhmjaaGreatKLater6
import Derived.Test.YtejipahfodhmjaaGreatKLater2
import Derived.Test.YtejipahfodhmjaaGreatKLater4
import Derived.Test.YtejipahfodhmjaaGreatKLater3
import Derived.Test.YtejipahfodhmjaaGreatKLater5
import Derived.Deep.SlicePairs
import Derived.ProofKit
import Derived.ChangeOld
namespace Go.Proofs.YtejipahfodhmjaaGreat
open Go.RowKit Go.Maps
set_option linter.unusedVariables false

def putCode (es : List En) (e : En) : Int :=
  if layFault es = 0 then (if entFault e = 0 then (if homeE es e.path then (if 12 < (putE es e).length then 2 else 0) else 9) else entFault e) else layFault es
def putList (es : List En) (e : En) : List En := if putCode es e = 0 then putE es e else []

set_option maxRecDepth 100000 in
set_option maxHeartbeats 3200000 in
theorem specPutEntry_any (a : Option Addr) (c n : Nat) (es : List En) (e : En) (x : Option Addr) (m cc : Nat) (w : World) (h : RdE w a es) (hn : n = es.length) (hl : es.length < 1048576) (hs : SmallE es) (hm : m = e.chunks.length) (hr : Reads .i64 w x e.chunks) (hp : e.path.length ≤ 1048576) (hcl : e.chunks.length ≤ 1048576) :
    Calls Tryz.prog 175 #[.slice a n c, .agg #[.string (str e.path), .int .i64 e.kind, .int .i64 e.size, .slice x m cc]] w (ResE (putCode es e) (putList es e) w) := by
  subst hn
  subst hm
  have HF := hide (fun u hb => l4Fault_any a c es.length es u (h.below hb) rfl (by omega) hs)
  have HEf := hide (fun u (hb : Below w.heap.size w u) => specEntryFault_any e x cc e.chunks.length u (hr.below hb) rfl hp hcl)
  have HHo := hide (fun u hb h1 => l4Home_any a c es.length es e.path u (h.below hb) rfl (by omega) h1 hp)
  have HPu := hide (fun u hb => l4Put_any a c es.length es e x e.chunks.length cc u (h.below hb) rfl hl hs rfl (hr.below hb) hp hcl)
  clear h hs hr
  go_enter Tryz.func175, Tryz.ntmps175
  go_wp2_with fail
  have B0 := hide (below_next (below_alloc w (.cells #[.string (str e.path), .int .i64 e.kind, .int .i64 e.size, .slice x e.chunks.length cc] 40)) (below_alloc _ (.cells #[.int .i64 0, .slice none 0 0] 37)))
  have F0 := hide ((Four.new w (.string (str e.path)) (.int .i64 e.kind) (.int .i64 e.size) (.slice x e.chunks.length cc) 40).below (below_alloc _ (.cells #[.int .i64 0, .slice none 0 0] 37)))
  have X0 := hide (Box.new (w.alloc (.cells #[.string (str e.path), .int .i64 e.kind, .int .i64 e.size, .slice x e.chunks.length cc] 40)) (.int .i64 0) (.slice none 0 0) 37)
  have hsz0 : (w.alloc (.cells #[.string (str e.path), .int .i64 e.kind, .int .i64 e.size, .slice x e.chunks.length cc] 40)).heap.size = w.heap.size + 1 := by simp
  rw [hsz0] at X0
  clear hsz0
  generalize (w.alloc (.cells #[.string (str e.path), .int .i64 e.kind, .int .i64 e.size, .slice x e.chunks.length cc] 40)).alloc (.cells #[.int .i64 0, .slice none 0 0] 37) = w0 at *
  have hrb : w.heap.size ≤ w.heap.size + 1 := Nat.le_succ _
  generalize hbk : w.heap.size + 1 = rb at *
  have HRB := hide hrb
  clear hrb hbk
  refine (HF.out _ B0.out).mono ?_
  rintro r w1 ⟨rfl, hb1⟩
  have B1 := hide (below_next B0.out hb1)
  have F1 := hide (F0.out.below hb1)
  have X1 := hide (X0.out.below hb1)
  clear hb1 B0 F0 X0 HF
  by_cases hz : layFault es = 0
  · rw [hz]
    obtain ⟨f0, f1, f2, f3⟩ := F1.out
    go_wp2_with fail
    refine (HEf.out _ B1.out).mono ?_
    rintro r w2 ⟨rfl, hb2⟩
    have B2 := hide (below_next B1.out hb2)
    have X2 := hide (X1.out.below hb2)
    have F2 := hide (F1.out.below hb2)
    clear hb2 f0 f1 f2 f3 F1 X1 B1 HEf
    by_cases he : entFault e = 0
    · rw [he]
      have hpos := path_pos (entFault_zero he)
      obtain ⟨f0, f1, f2, f3⟩ := F2.out
      go_wp2_with fail
      refine (HHo.out _ B2.out hpos).mono ?_
      rintro r w3 ⟨rfl, hb3⟩
      have B3 := hide (below_next B2.out hb3)
      have X3 := hide (X2.out.below hb3)
      have F3 := hide (F2.out.below hb3)
      clear hb3 f0 f1 f2 f3 F2 X2 B2 HHo
      cases hh : homeE es e.path
      · have HC := hide (show putCode es e = 9 ∧ putList es e = [] from by
          have : putCode es e = 9 := by simp [putCode, hz, he, hh]
          exact ⟨this, by simp [putList, this]⟩)
        clear hh hz he
        obtain ⟨⟨t0, t1⟩, t2, t3⟩ := X3.out
        go_wp2_with fail
        exact bodyPost_ret (v := .agg #[.int .i64 9, .slice none 0 0]) (by simp [results, Tryz.results175, go_sem, t0, t1]) rfl (by rw [HC.out.1, HC.out.2]; exact ResE.bad HRB.out B3.out)
      · have HC0 := hide (show putCode es e = (if 12 < (putE es e).length then 2 else 0) from by simp [putCode, hz, he, hh])
        clear hh hz he
        obtain ⟨f0, f1, f2, f3⟩ := F3.out
        go_wp2_with fail
        refine (HPu.out _ B3.out).mono ?_
        rintro r w4 ⟨g, cv, rfl, hG, hb4⟩
        have hlt0 := X3.out.1.lt
        have B4 := hide (below_next B3.out hb4)
        obtain ⟨⟨t0, t1⟩, t2, t3⟩ := X3.out.below hb4
        have GG := hide hG
        clear hG hb4 f0 f1 f2 f3 F3 X3 HPu
        by_cases hq : 12 < (putE es e).length
        · have HC := hide (show putCode es e = 2 ∧ putList es e = [] from by
            have : putCode es e = 2 := by rw [HC0.out, if_pos hq]
            exact ⟨this, by simp [putList, this]⟩)
          have hq2 : (12 : Int) < ((putE es e).length : Int) := by omega
          go_wp2_with fail
          exact bodyPost_ret (v := .agg #[.int .i64 2, .slice none 0 0]) (by simp [results, Tryz.results175, go_sem, t0, t1]) rfl (by rw [HC.out.1, HC.out.2]; exact ResE.bad HRB.out B4.out)
        · have HC := hide (show putCode es e = 0 ∧ putList es e = putE es e from by
            have : putCode es e = 0 := by rw [HC0.out, if_neg hq]
            exact ⟨this, by simp [putList, this]⟩)
          have hq2 : ¬ (12 : Int) < ((putE es e).length : Int) := by omega
          go_wp2_with fail
          exact bodyPost_ret (v := .agg #[.int .i64 0, .slice (some ⟨g, 0, none⟩) (putE es e).length cv]) (by simp [results, Tryz.results175, go_sem, t0, t1]) rfl (by rw [HC.out.1, HC.out.2]; exact ResE.of (w2 := w3) hlt0 HRB.out rfl GG.out B4.out)
    · have HC := hide (show putCode es e = entFault e ∧ putList es e = [] from by
        have : putCode es e = entFault e := by simp [putCode, hz, he]
        exact ⟨this, by simp [putList, this, he]⟩)
      generalize entFault e = F at *
      have hz2 : (F != 0) = true := by simp; exact he
      clear he hz
      obtain ⟨⟨t0, t1⟩, t2, t3⟩ := X2.out
      go_wp2_with fail
      exact bodyPost_ret (v := .agg #[.int .i64 F, .slice none 0 0]) (by simp [results, Tryz.results175, go_sem, t0, t1]) rfl (by rw [HC.out.1, HC.out.2]; exact ResE.bad HRB.out B2.out)
  · have HC := hide (show putCode es e = layFault es ∧ putList es e = [] from by
      have : putCode es e = layFault es := by simp [putCode, hz]
      exact ⟨this, by simp [putList, this, hz]⟩)
    generalize layFault es = F at *
    have hz2 : (F != 0) = true := by simp; exact hz
    clear hz
    obtain ⟨⟨t0, t1⟩, t2, t3⟩ := X1.out
    go_wp2_with fail
    exact bodyPost_ret (v := .agg #[.int .i64 F, .slice none 0 0]) (by simp [results, Tryz.results175, go_sem, t0, t1]) rfl (by rw [HC.out.1, HC.out.2]; exact ResE.bad HRB.out B1.out)

end Go.Proofs.YtejipahfodhmjaaGreat

namespace Go.Proofs.YtejipahfodhmjaaGreat
set_option linter.unusedVariables false

theorem bl_irrefl : ∀ a : Bs, Op.bytesLess a a = false
  | [] => rfl
  | c :: a => by simp [Op.bytesLess, bl_irrefl a]
theorem bl_trans : ∀ a b c : Bs, Op.bytesLess a b = true → Op.bytesLess b c = true → Op.bytesLess a c = true
  | a, [], c, h, _ => by cases a <;> simp [Op.bytesLess] at h
  | [], b :: bs, [], _, h2 => by simp [Op.bytesLess] at h2
  | [], b :: bs, c :: cs, _, _ => by simp [Op.bytesLess]
  | a :: xs, b :: ys, [], _, h2 => by simp [Op.bytesLess] at h2
  | a :: xs, b :: ys, c :: zs, h1, h2 => by
    simp only [Op.bytesLess, Bool.or_eq_true, decide_eq_true_eq, Bool.and_eq_true, beq_iff_eq] at h1 h2 ⊢
    rcases h1 with h1 | ⟨rfl, h1⟩
    · rcases h2 with h2 | ⟨rfl, h2⟩
      · exact .inl (UInt8.lt_trans h1 h2)
      · exact .inl h1
    · rcases h2 with h2 | ⟨rfl, h2⟩
      · exact .inl h2
      · exact .inr ⟨rfl, bl_trans xs ys zs h1 h2⟩
theorem bl_total : ∀ a b : Bs, Op.bytesLess a b = false → a ≠ b → Op.bytesLess b a = true
  | [], [], _, h => absurd rfl h
  | [], b :: bs, h, _ => by simp [Op.bytesLess] at h
  | a :: xs, [], _, _ => by simp [Op.bytesLess]
  | a :: xs, b :: ys, h, hn => by
    simp only [Op.bytesLess, Bool.or_eq_false_iff, decide_eq_false_iff_not, Bool.and_eq_false_iff, beq_eq_false_iff_ne] at h
    simp only [Op.bytesLess, Bool.or_eq_true, decide_eq_true_eq, Bool.and_eq_true, beq_iff_eq]
    by_cases e : a = b
    · subst e
      refine .inr ⟨rfl, bl_total xs ys ?_ (fun x => hn (by rw [x]))⟩
      rcases h.2 with h2 | h2
      · exact absurd rfl h2
      · exact h2
    · refine .inl ?_
      have h1 := h.1
      rw [UInt8.lt_iff_toNat_lt] at h1 ⊢
      have : a.toNat ≠ b.toNat := fun x => e (UInt8.toNat_inj.1 x)
      omega
theorem bl_asymm {a b : Bs} (h : Op.bytesLess a b = true) : Op.bytesLess b a = false := by
  cases h2 : Op.bytesLess b a
  · rfl
  · have := bl_trans a b a h h2
    rw [bl_irrefl] at this
    cases this
theorem bl_ne {a b : Bs} (h : Op.bytesLess a b = true) : a ≠ b := fun e => by rw [e, bl_irrefl] at h; cases h

def Rise (es : List En) : Prop := es.Pairwise fun x y => Op.bytesLess x.path y.path = true
theorem lowE_some {q e : En} (h : lowE (some q) e = false) : Op.bytesLess q.path e.path = true := by
  simp only [lowE, Bool.or_eq_false_iff, beq_eq_false_iff_ne] at h
  exact bl_total _ _ h.1 h.2
theorem lowE_of {q e : En} (h : Op.bytesLess q.path e.path = true) : lowE (some q) e = false := by
  simp only [lowE, Bool.or_eq_false_iff, beq_eq_false_iff_ne]
  exact ⟨bl_asymm h, fun x => bl_ne h x.symm⟩
theorem layFromH_zero {H : Bs → Bool} : ∀ {l : List En} {prev : Option En}, layFromH H prev l = 0 ↔ (∀ e ∈ l, entFault e = 0 ∧ H e.path = true) ∧ Rise l ∧ ∀ q, prev = some q → ∀ e ∈ l, Op.bytesLess q.path e.path = true
  | [], prev => by simp [layFromH, Rise]
  | x :: r, prev => by
    have ih := layFromH_zero (H := H) (l := r) (prev := some x)
    have hx : entBadH H prev x = 0 ↔ entFault x = 0 ∧ lowE prev x = false ∧ H x.path = true := by
      unfold entBadH
      by_cases h1 : entFault x = 0
      · simp only [h1, if_true, true_and]
        cases h2 : lowE prev x
        · cases h3 : H x.path <;> simp
        · simp
      · simp [h1]
    simp only [layFromH]
    by_cases hb : entBadH H prev x = 0
    · rw [if_pos hb, ih]
      obtain ⟨h1, h2, h3⟩ := hx.1 hb
      constructor
      · rintro ⟨a1, a2, a3⟩
        refine ⟨fun e he => ?_, List.pairwise_cons.2 ⟨fun e he => a3 x rfl e he, a2⟩, fun q hq e he => ?_⟩
        · rcases List.mem_cons.1 he with rfl | he
          · exact ⟨h1, h3⟩
          · exact a1 e he
        · subst hq
          have := lowE_some h2
          rcases List.mem_cons.1 he with rfl | he
          · exact this
          · exact bl_trans _ _ _ this (a3 x rfl e he)
      · rintro ⟨a1, a2, a3⟩
        refine ⟨fun e he => a1 e (List.mem_cons_of_mem _ he), (List.pairwise_cons.1 a2).2, fun q hq e he => ?_⟩
        cases hq
        exact (List.pairwise_cons.1 a2).1 e he
    · rw [if_neg hb]
      constructor
      · intro h; exact absurd h hb
      · rintro ⟨a1, a2, a3⟩
        exfalso
        refine hb (hx.2 ⟨(a1 x List.mem_cons_self).1, ?_, (a1 x List.mem_cons_self).2⟩)
        cases prev with
        | none => rfl
        | some q => exact lowE_of (a3 q rfl x List.mem_cons_self)
theorem rise_find {es : List En} (h : Rise es) {e : En} (he : e ∈ es) : findE es e.path = some e := by
  induction es with
  | nil => simp at he
  | cons x r ih =>
    have hp := List.pairwise_cons.1 h
    rcases List.mem_cons.1 he with rfl | he
    · simp [findE]
    · have := hp.1 e he
      rw [findE, List.find?_cons]
      have hn : x.path ≠ e.path := bl_ne this
      simp only [hn, decide_false]
      exact ih hp.2 he
theorem find_mem {es : List En} {p : Bs} {e : En} (h : findE es p = some e) : e ∈ es ∧ e.path = p := by
  refine ⟨List.mem_of_find?_eq_some h, ?_⟩
  have := List.find?_some h
  simpa using this
theorem find_none {es : List En} {p : Bs} (h : ∀ e ∈ es, e.path ≠ p) : findE es p = none := by
  rw [findE, List.find?_eq_none]
  intro e he
  simpa using h e he
theorem homeP_iff {es : List En} {p : Bs} : homeP es p = true ↔ parentP p = [] ∨ ∃ d ∈ es, d.path = parentP p ∧ dirK d.kind = true := by
  unfold homeP hasDir
  by_cases h : parentP p = []
  · simp [h]
  · simp [h]
theorem homeP_eq {es : List En} (h : Rise es) (p : Bs) : homeP es p = homeE es p := by
  unfold homeP homeE
  by_cases h0 : parentP p = []
  · simp [h0]
  · rw [if_neg h0, if_neg h0]
    cases hf : findE es (parentP p) with
    | none =>
      rw [hasDir, List.any_eq_false]
      intro x hx
      have := List.find?_eq_none.1 hf x hx
      simp only [decide_eq_true_eq] at this
      simp [this]
    | some d =>
      obtain ⟨hd, hdp⟩ := find_mem hf
      cases hk : dirK d.kind
      · show hasDir es (parentP p) = dirK d.kind
        rw [hk, hasDir, List.any_eq_false]
        intro x hx
        by_cases hxp : x.path = parentP p
        · have := rise_find h hx
          rw [hxp, hf] at this
          cases this
          simp [hk]
        · simp [hxp]
      · show hasDir es (parentP p) = dirK d.kind
        rw [hk, hasDir, List.any_eq_true]
        exact ⟨d, hd, by simp [hdp, hk]⟩
structure Right (es : List En) : Prop where
  len : es.length ≤ 12
  ent : ∀ e ∈ es, entFault e = 0
  rise : Rise es
  home : ∀ e ∈ es, homeP es e.path = true
theorem right_P {es : List En} : layFaultP es = 0 ↔ Right es := by
  unfold layFaultP
  by_cases h : 12 < es.length
  · rw [if_pos h]
    exact ⟨fun x => (by cases x), fun x => (by have := x.len; omega)⟩
  · rw [if_neg h, layFromH_zero]
    exact ⟨fun ⟨a, b, _⟩ => ⟨by omega, fun e he => (a e he).1, b, fun e he => (a e he).2⟩, fun x => ⟨fun e he => ⟨x.ent e he, x.home e he⟩, x.rise, fun q hq => by cases hq⟩⟩
theorem layFromH_congr {H H' : Bs → Bool} : ∀ {l : List En} {prev : Option En}, (∀ e ∈ l, entFault e = 0 → H e.path = H' e.path) → layFromH H prev l = layFromH H' prev l
  | [], _, _ => rfl
  | x :: r, prev, h => by
    have hx : entBadH H prev x = entBadH H' prev x := by
      unfold entBadH
      by_cases h1 : entFault x = 0
      · rw [h x List.mem_cons_self h1]
      · simp [h1]
    simp only [layFromH]
    rw [hx, layFromH_congr (l := r) (prev := some x) (fun e he => h e (List.mem_cons_of_mem _ he))]
theorem right_E {es : List En} : layFault es = 0 ↔ Right es := by
  unfold layFault
  by_cases h : 12 < es.length
  · rw [if_pos h]
    exact ⟨fun x => (by cases x), fun x => (by have := x.len; omega)⟩
  · rw [if_neg h, layFrom_H, layFromH_zero]
    exact ⟨fun ⟨a, b, _⟩ => ⟨by omega, fun e he => (a e he).1, b, fun e he => by rw [homeP_eq b]; exact (a e he).2⟩, fun x => ⟨fun e he => ⟨x.ent e he, by rw [← homeP_eq x.rise]; exact x.home e he⟩, x.rise, fun q hq => by cases hq⟩⟩

theorem belowB_iff {p t : Bs} : belowB p t = true ↔ ∃ r, r ≠ [] ∧ p = t ++ 47 :: r := by
  simp only [belowB, Bool.and_eq_true, decide_eq_true_eq, beq_iff_eq]
  constructor
  · rintro ⟨⟨hl, ht⟩, hh⟩
    cases e : p.drop t.length with
    | nil => rw [e] at hh; simp at hh
    | cons c r =>
      rw [e] at hh
      simp at hh
      subst hh
      refine ⟨r, ?_, ?_⟩
      · intro h0
        have := congrArg List.length e
        rw [List.length_drop, h0] at this
        simp at this
        omega
      · rw [← e]
        conv => lhs; rw [← List.take_append_drop t.length p, ht]
  · rintro ⟨r, hr, rfl⟩
    have := List.length_pos_iff.2 hr
    simp
    first | done | omega
theorem below_trans {p q t : Bs} (h1 : belowB p q = true) (h2 : belowB q t = true) : belowB p t = true := by
  obtain ⟨r, hr, rfl⟩ := belowB_iff.1 h1
  obtain ⟨s, hs, rfl⟩ := belowB_iff.1 h2
  exact belowB_iff.2 ⟨s ++ 47 :: r, by simp, by simp⟩
theorem below_len {p t : Bs} (h : belowB p t = true) : t.length < p.length := by
  obtain ⟨r, hr, rfl⟩ := belowB_iff.1 h
  simp
theorem parent_above {p : Bs} (hp : faultP p = 0) (h : parentP p ≠ []) : faultP (parentP p) = 0 ∧ belowB p (parentP p) = true := by
  have hm : parentP p ∈ aboveN (cutB p.tail) := by
    have hne : aboveN (cutB p.tail) ≠ [] := fun e => h (parentP_nil.2 e)
    unfold parentP
    rw [List.getLastD_eq_getLast?, List.getLast?_eq_some_getLast hne]
    exact List.getLast_mem _
  exact (above_iff hp).1 hm
theorem mem_putAt {bs : List En} {e x : En} : x ∈ putAt bs e ↔ x = e ∨ x ∈ bs := by
  have hb : x ∈ bs ↔ x ∈ bs.take (lowN bs e.path) ∨ x ∈ bs.drop (lowN bs e.path) := by
    conv => lhs; rw [← List.take_append_drop (lowN bs e.path) bs]
    exact List.mem_append
  unfold putAt
  rw [List.mem_append, List.mem_cons, hb]
  exact ⟨fun h => h.elim (fun h => .inr (.inl h)) (fun h => h.elim .inl (fun h => .inr (.inr h))), fun h => h.elim (fun h => .inr (.inl h)) (fun h => h.elim .inl (fun h => .inr (.inr h)))⟩
theorem mem_putE {es : List En} {e x : En} : x ∈ putE es e ↔ x = e ∨ (x ∈ es ∧ keepE e x = true) := by
  rw [putE, mem_putAt, baseE, List.mem_filter]
theorem low_take {p : Bs} : ∀ (bs : List En), ∀ x ∈ bs.take (lowN bs p), Op.bytesLess x.path p = true
  | [], x, hx => by simp [lowN] at hx
  | b :: bs, x, hx => by
    unfold lowN at hx
    rw [List.takeWhile_cons] at hx
    cases h : Op.bytesLess b.path p
    · rw [h] at hx; simp at hx
    · rw [h] at hx
      simp only [if_true, List.length_cons, List.take_succ_cons, List.mem_cons] at hx
      rcases hx with rfl | hx
      · exact h
      · exact low_take bs x hx
theorem low_drop {p : Bs} : ∀ (bs : List En), Rise bs → (∀ x ∈ bs, x.path ≠ p) → ∀ x ∈ bs.drop (lowN bs p), Op.bytesLess p x.path = true
  | [], _, _, x, hx => by simp at hx
  | b :: bs, hr, hn, x, hx => by
    unfold lowN at hx
    rw [List.takeWhile_cons] at hx
    cases h : Op.bytesLess b.path p
    · rw [h] at hx
      simp only [if_false, Bool.false_eq_true, List.length_nil, List.drop_zero] at hx
      have hb := bl_total _ _ h (hn b List.mem_cons_self)
      rcases List.mem_cons.1 hx with rfl | hx
      · exact hb
      · exact bl_trans _ _ _ hb ((List.pairwise_cons.1 hr).1 x hx)
    · rw [h] at hx
      simp only [if_true, List.length_cons, List.drop_succ_cons] at hx
      exact low_drop bs (List.pairwise_cons.1 hr).2 (fun y hy => hn y (List.mem_cons_of_mem _ hy)) x hx
theorem rise_putAt {bs : List En} {e : En} (h : Rise bs) (hn : ∀ x ∈ bs, x.path ≠ e.path) : Rise (putAt bs e) := by
  unfold putAt Rise
  rw [List.pairwise_append]
  refine ⟨h.sublist (List.take_sublist _ _), List.pairwise_cons.2 ⟨fun x hx => low_drop bs h hn x hx, h.sublist (List.drop_sublist _ _)⟩, fun x hx y hy => ?_⟩
  have h1 := low_take bs x hx
  rcases List.mem_cons.1 hy with rfl | hy
  · exact h1
  · exact bl_trans _ _ _ h1 (low_drop bs h hn y hy)
theorem rise_putE {es : List En} {e : En} (h : Rise es) : Rise (putE es e) := by
  refine rise_putAt (h.sublist List.filter_sublist) (fun x hx => ?_)
  have := (List.mem_filter.1 hx).2
  simp only [keepE, Bool.and_eq_true, Bool.not_eq_true', decide_eq_false_iff_not] at this
  exact this.1
theorem right_put {es : List En} {e : En} (h : Right es) (he : entFault e = 0) (hh : homeP es e.path = true) (hl : (putE es e).length ≤ 12) : Right (putE es e) := by
  have hpe := entFault_zero he
  refine ⟨hl, fun x hx => ?_, rise_putE h.rise, fun x hx => ?_⟩
  · rcases mem_putE.1 hx with rfl | ⟨hx, _⟩
    · exact he
    · exact h.ent x hx
  · rw [homeP_iff]
    rcases mem_putE.1 hx with rfl | ⟨hx, hk⟩
    · rcases homeP_iff.1 hh with h0 | ⟨d, hd, hdp, hdk⟩
      · exact .inl h0
      · by_cases h0 : parentP x.path = []
        · exact .inl h0
        · have hb := (parent_above hpe h0).2
          have hlen := below_len hb
          refine .inr ⟨d, mem_putE.2 (.inr ⟨hd, ?_⟩), hdp, hdk⟩
          have h1 : d.path ≠ x.path := fun e => by rw [hdp] at e; rw [e] at hlen; omega
          have h2 : belowB d.path x.path = false := by
            cases h3 : belowB d.path x.path
            · rfl
            · have := below_len h3; rw [hdp] at this; omega
          simp [keepE, h1, h2]
    · have hpx := entFault_zero (h.ent x hx)
      rcases homeP_iff.1 (h.home x hx) with h0 | ⟨d, hd, hdp, hdk⟩
      · exact .inl h0
      · by_cases h0 : parentP x.path = []
        · exact .inl h0
        · have hb := (parent_above hpx h0).2
          rw [← hdp] at hb
          simp only [keepE, Bool.and_eq_true, Bool.not_eq_true', decide_eq_false_iff_not, Bool.or_eq_true] at hk
          by_cases hde : d.path = e.path
          · rcases hk.2 with hk2 | hk2
            · exact .inr ⟨e, mem_putE.2 (.inl rfl), by rw [← hde]; exact hdp, hk2⟩
            · rw [hde] at hb; rw [hb] at hk2; cases hk2
          · refine .inr ⟨d, mem_putE.2 (.inr ⟨hd, ?_⟩), hdp, hdk⟩
            simp only [keepE, Bool.and_eq_true, Bool.not_eq_true', decide_eq_false_iff_not, Bool.or_eq_true]
            refine ⟨hde, hk.2.elim .inl (fun hk2 => .inr ?_)⟩
            cases h3 : belowB d.path e.path
            · rfl
            · rw [below_trans hb h3] at hk2; cases hk2
theorem right_nil : Right [] := ⟨by simp, fun e he => by simp at he, List.Pairwise.nil, fun e he => by simp at he⟩

def putCodeP (es : List En) (e : En) : Int :=
  if layFaultP es = 0 then (if entFault e = 0 then (if homeP es e.path then (if 12 < (putE es e).length then 2 else 0) else 9) else entFault e) else layFaultP es
theorem putP_zero {es : List En} {e : En} (h : putCodeP es e = 0) : Right es ∧ entFault e = 0 ∧ homeP es e.path = true ∧ (putE es e).length ≤ 12 ∧ Right (putE es e) := by
  unfold putCodeP at h
  by_cases h1 : layFaultP es = 0
  · rw [if_pos h1] at h
    by_cases h2 : entFault e = 0
    · rw [if_pos h2] at h
      cases h3 : homeP es e.path
      · rw [h3] at h; simp at h
      · rw [h3] at h
        by_cases h4 : 12 < (putE es e).length
        · rw [if_pos rfl, if_pos h4] at h; cases h
        · have hR := right_P.1 h1
          exact ⟨hR, h2, rfl, by omega, right_put hR h2 h3 (by omega)⟩
    · rw [if_neg h2] at h; exact absurd h h2
  · rw [if_neg h1] at h; exact absurd h h1

end Go.Proofs.YtejipahfodhmjaaGreat

namespace Go.Proofs.YtejipahfodhmjaaGreat
open Go.RowKit Go.Maps
set_option linter.unusedVariables false
attribute [local go_sem ↓] Go.wp_at_zero Go.wp_at_succ

set_option maxRecDepth 100000 in
set_option maxHeartbeats 1600000 in
theorem path_e (p : Nat) (zs : List Int) (T : Int) (w : World) (h : SrcX w p zs T) (hu : U8 zs) (hT : T ≤ 900000) (hl : zs.length ≤ 2097152) :
    Calls Tryz.prog 117 #[.pointer (some ⟨p, 0, none⟩)] w fun e w' => ∃ x : Bs, e = .returned (.string (str x)) ∧ faultP x = 0 ∧ x.length ≤ 9 ∧ SrcX w' p zs (T + 4) ∧ Kept (fun b => b = p) w w' := by
  obtain ⟨i1, ki, kz0, kz1, kz2⟩ := info_parts infoS
  have hp := h.lt
  have HS := hide ((h.below (below_alloc w (.cells #[] 9))).below (below_alloc _ (.cells #[.int .i64 1, .int .i64 1, .int .i64 2, .int .i64 2, .int .i64 3] 2)))
  have O0 := hide (OwnS.below (w' := (w.alloc (.cells #[] 9)).alloc (.cells #[.int .i64 1, .int .i64 1, .int .i64 2, .int .i64 2, .int .i64 3] 2)) (ps := []) (World.ownsRow_made (base := w.heap.size) (e := 9) (size := 1) w #[] 0 (Nat.le_refl _) (Nat.zero_le _) rfl) (below_alloc _ _))
  have HU := hide hu
  have K0 := hide (((Kept.refl (fun b => b = p) w).alloc (.cells #[] 9)).alloc (.cells #[.int .i64 1, .int .i64 1, .int .i64 2, .int .i64 2, .int .i64 3] 2))
  have C5 := hide (cells5' (w.alloc (.cells #[] 9)) 1 1 2 2 3 2)
  clear h hu
  go_enter Tryz.func117, Tryz.ntmps117
  go_wp2_with fail
  refine (pick_e p (w.heap.size + 1) 5 5 [1, 1, 2, 2, 3] zs T _ HS.out HU.out (by omega) hl (by decide) (by decide) rfl (by omega) (by simp) (by simpa using C5.out)).mono ?_
  rintro e w1 ⟨v, hv, rfl, s1, k1⟩
  have hv2 : 1 ≤ v ∧ v ≤ 3 := by simp at hv; omega
  obtain ⟨m0, rfl⟩ : ∃ m : Nat, v = m := ⟨v.toNat, by omega⟩
  have S1 := hide s1
  have O1 := hide (O0.out.kept k1 (fun b hb e => by have := (O0.out.lt b hb).1; omega))
  have K1 := hide (K0.out.trans k1)
  clear s1 k1 O0 K0 C5 HS hv
  go_wp2_with fail
  go_loopw [3, 4] (fun v k wr => ∃ (q : List Bs) (m : Nat), k = .int .i64 m ∧ q.length + m = m0 ∧ Hid (∀ n ∈ q, plain n = true ∧ n.length ≤ 2) ∧ Hid (OwnS w.heap.size wr v q) ∧ Hid (SrcX wr p zs (T + 1 + q.length)) ∧ Hid (Kept (fun b => b = p) w wr)) (fun _ k _ => (intOf k).toNat)
  case atStart => exact ⟨[], m0, rfl, by simp, hide (by simp), O1, hide (by simpa using S1.out), K1⟩
  case round =>
    obtain ⟨q, m, rfl, hqm, HN, HO, HSr, HK⟩ := hrel
    obtain ⟨va, vc, rfl⟩ := HO.out.shape
    by_cases hm : 0 < m
    · have hm' : (0 : Int) < (m : Int) := by omega
      have hm1 : q.length + 1 ≤ maxLen := by unfold maxLen; omega
      have hm2 : (q.length + 1) * 16 ≤ 140737488355328 := by omega
      go_wp2_with fail
      refine (name_e p zs _ _ HSr.out HU.out (by omega) hl).mono ?_
      rintro e w2 ⟨x, rfl, hxl, s2, k2⟩
      have S2 := hide s2
      have HX := hide hxl
      have O2 := hide (HO.out.kept k2 (fun b hb e => by have := (HO.out.lt b hb).1; omega))
      have K2 := hide (HK.out.trans k2)
      have hsz : w.heap.size ≤ w2.heap.size := K2.out.size
      clear s2 k2 hxl
      go_wp2_with (at_builtin; refine wpList_append_one rfl (.tmp 13) (.tmp 16) 50 rfl w.heap.size 9 i1 (.string ⟨#[]⟩) 1 16 Tryz.underlying50 ki kz0 kz1 kz2 rfl (by decide) _ _ _ rfl O2.out rfl rfl (by intro u hu; simp at hu; subst hu; rfl) hm1 hm2 hsz ?_; intro v' w3 hown3 hkept; have O3 := hide (OwnS.snoc hown3 rfl); have K3 := hide hkept; clear hown3 hkept)
      go_roundw
      case rel => exact ⟨q ++ [x], m - 1, by go_num, by simp; omega, hide (fun n hn => by rcases List.mem_append.1 hn with h | h; exact HN.out n h; simp at h; rw [h]; exact HX.out), O3, hide ((S2.out.kept K3.out (fun b hb e => by have := (O2.out.lt b e).1; omega)).mono (by simp; omega)), hide (K2.out.trans_own K3.out (fun b hb e => by have := (O2.out.lt b e).1; omega))⟩
      case measure => simp [intOf]; omega
    · have hm' : ¬ (0 : Int) < (m : Int) := by omega
      have hjl := join_small q (fun n hn => (HN.out n hn).2)
      have HFP := hide (show faultP (joinB q) = 0 from faultP_of ⟨by intro e; rw [e] at hqm; simp at hqm; omega, fun n hn => (HN.out n hn).1, fun n hn => by have := (HN.out n hn).2; omega, by omega⟩)
      go_wp2_with fail
      refine (l3Join_any _ _ q _ HO.out.reads (by omega) (by omega) _ rfl).mono ?_
      rintro e w2 ⟨rfl, rfl⟩
      go_wp2_with fail
      go_ret
      exact ⟨joinB q, rfl, HFP.out, by omega, HSr.out.mono (by omega), HK.out⟩

set_option maxRecDepth 100000 in
set_option maxHeartbeats 1600000 in
theorem bent_e (p : Nat) (zs : List Int) (T : Int) (w : World) (h : SrcX w p zs T) (hu : U8 zs) (hT : T ≤ 800000) (hl : zs.length ≤ 2097152) :
    Calls Tryz.prog 76 #[.pointer (some ⟨p, 0, none⟩)] w fun e w' => ∃ x : Bs, e = .returned (.string (str x)) ∧ x.length ≤ 9 ∧ SrcX w' p zs (T + 5) ∧ Kept (fun b => b = p) w w' := by
  have hp := h.lt
  have HS := hide h
  have HU := hide hu
  clear h hu
  go_enter Tryz.func76, Tryz.ntmps76
  go_wp2_with fail
  refine (chance_e p zs T 5 _ HS.out HU.out (by omega) (by decide) (by decide) hl).mono ?_
  rintro e w1 ⟨r, rfl, s1, k1⟩
  have S1 := hide s1
  have K1 := hide k1
  have hp1 := s1.lt
  clear s1 k1 HS
  cases r
  · go_wp2_with fail
    refine (path_e p zs _ _ S1.out HU.out (by omega) hl).mono ?_
    rintro e w2 ⟨x, rfl, -, hxl, s2, k2⟩
    have S2 := hide s2
    have K2 := hide (K1.out.trans k2)
    clear k2 s2
    go_wp2_with fail
    go_ret
    exact ⟨x, rfl, hxl, S2.out.mono (by omega), K2.out⟩
  · have T0 := hide (TextsQ.new (Q := fun x => x.length ≤ 9) (w := w1) (t := 9) (vs := [[], [97], [47, 97, 47], [47, 47], [47, 65], [47, 97, 98, 99, 100, 101], [47, 97, 47, 98, 47, 99, 47, 100], [47], [47, 97, 32, 98]]) (by decide))
    have S2 := hide (S1.out.below (below_alloc w1 (.cells ([[], [97], [47, 97, 47], [47, 47], [47, 65], [47, 97, 98, 99, 100, 101], [47, 97, 47, 98, 47, 99, 47, 100], [47], [47, 97, 32, 98]].map vS).toArray 9)))
    go_wp2_with fail
    refine (next_e p zs _ 9 _ S2.out HU.out (by omega) (by decide) (by decide) hl).mono ?_
    rintro e w2 ⟨i, rfl, r1, s2, k2⟩
    have T1 := hide (T0.out.kept k2 (by omega))
    have K2 := hide ((K1.out.alloc (.cells ([[], [97], [47, 97, 47], [47, 47], [47, 65], [47, 97, 98, 99, 100, 101], [47, 97, 47, 98, 47, 99, 47, 100], [47], [47, 97, 32, 98]].map vS).toArray 9)).trans k2)
    have S3 := hide s2
    clear s2 k2 T0 S2
    obtain ⟨x, hx, hxl⟩ := T1.out.2 i (by simp; omega)
    have hb := T1.out.1
    go_wp2_with fail
    go_ret
    exact ⟨x, rfl, hxl, S3.out.mono (by omega), K2.out⟩

theorem bare_right {p : Bs} {k : Int} (hp : faultP p = 0) (hk : 2 ≤ k ∧ k ≤ 4) : entFault ⟨p, k, 0, []⟩ = 0 := by
  rw [entFault_digs (e := ⟨p, k, 0, []⟩) hp (decide_eq_true ⟨⟨by show (1 : Int) ≤ k; omega, by show k ≤ 4; omega⟩, .inr ⟨rfl, rfl⟩⟩) (decide_eq_true (show (0 : Int) ≤ 0 ∧ (0 : Int) ≤ 24 by decide)) (decide_eq_true (show ((0 : Nat) : Int) = ((0 : Int) + 7) / 8 by decide))]
  rfl
theorem file_right {p : Bs} {zs : List Int} (hp : faultP p = 0) (hl : zs.length ≤ 24) : entFault (fileE p zs) = 0 := by
  have h1 : formE (fileE p zs) = true := decide_eq_true ⟨by simp [fileE], .inl rfl⟩
  have h2 : sizeE (fileE p zs) = true := decide_eq_true (by simp [fileE]; omega)
  have h3 : manyE (fileE p zs) = true := decide_eq_true (by show ((digs zs (cut zs).length).length : Int) = ((zs.length : Int) + 7) / 8; rw [digs_len, cut_length]; omega)
  rw [entFault_digs hp h1 h2 h3, if_pos]
  rw [List.all_eq_true]
  intro z hz
  simp only [fileE, digs, List.mem_map] at hz
  obtain ⟨i, _, rfl⟩ := hz
  exact decide_eq_true (digest_range _)
def DrawnE (w : World) (p : Nat) (zs : List Int) (T : Int) (Q : En → Prop) (r : Ending) (w' : World) : Prop :=
  ∃ (e : En) (a : Option Addr) (c : Nat), r = .returned (.agg #[.string (str e.path), .int .i64 e.kind, .int .i64 e.size, .slice a e.chunks.length c]) ∧ Q e ∧ w'.ownsRow w.heap.size 2 1 (.slice a e.chunks.length c) e.chunks.length (e.chunks.map (Value.int .i64)) ∧ SrcX w' p zs T ∧ Kept (fun b => b = p) w w'

end Go.Proofs.YtejipahfodhmjaaGreat

namespace Go.Proofs.YtejipahfodhmjaaGreat
open Go.ChangeShapes Go.WideShapes Go.ChangeAt Go.RowKit
set_option linter.unusedVariables false

def Box4 (w : World) (b : Nat) (u0 u1 u2 u3 : Value) : Prop := Four w b u0 u1 u2 u3 ∧ ∀ i, w.frozen? ⟨b, i, none⟩ = false
theorem Box4.new (w : World) (u0 u1 u2 u3 : Value) (t : TypeId) : Box4 (w.alloc (.cells #[u0, u1, u2, u3] t)) w.heap.size u0 u1 u2 u3 := ⟨Four.new w u0 u1 u2 u3 t, fun i => by simp⟩
theorem Box4.below {w w' : World} {b : Nat} {u0 u1 u2 u3 : Value} (h : Box4 w b u0 u1 u2 u3) (hk : Below w.heap.size w w') : Box4 w' b u0 u1 u2 u3 :=
  ⟨h.1.below hk, fun i => (hk.frozen (p := ⟨b, i, none⟩) h.1.lt).trans (h.2 i)⟩

end Go.Proofs.YtejipahfodhmjaaGreat

namespace Go.Proofs.YtejipahfodhmjaaGreat
open Go.RowKit Go.Maps
set_option linter.unusedVariables false
attribute [local go_sem ↓] Go.wp_at_zero Go.wp_at_succ

theorem Box4.kept {S : Nat → Prop} {w w' : World} {b : Nat} {u0 u1 u2 u3 : Value} (h : Box4 w b u0 u1 u2 u3) (hk : Kept S w w') (hn : ¬ S b) : Box4 w' b u0 u1 u2 u3 :=
  ⟨⟨(hk.cell (p := ⟨b, 0, none⟩) h.1.lt hn).trans h.1.1, (hk.cell (p := ⟨b, 1, none⟩) h.1.lt hn).trans h.1.2.1, (hk.cell (p := ⟨b, 2, none⟩) h.1.lt hn).trans h.1.2.2.1, (hk.cell (p := ⟨b, 3, none⟩) h.1.lt hn).trans h.1.2.2.2⟩, fun i => (hk.frozen (p := ⟨b, i, none⟩) h.1.lt hn).trans (h.2 i)⟩
set_option maxRecDepth 100000 in
set_option maxHeartbeats 3200000 in
theorem drawEntry_e (p : Nat) (zs : List Int) (T : Int) (w : World) (h : SrcX w p zs T) (hu : U8 zs) (hT : T ≤ 700000) (hl : zs.length ≤ 2097152) :
    Calls Tryz.prog 173 #[.pointer (some ⟨p, 0, none⟩)] w (DrawnE w p zs (T + 30) (fun e => entFault e = 0 ∧ e.path.length ≤ 9)) := by
  have hp := h.lt
  have X0 := hide (Box4.new w (.string ⟨#[]⟩) (.int .i64 0) (.int .i64 0) (.slice none 0 0) 40)
  have S0 := hide (h.below (below_alloc w (.cells #[.string ⟨#[]⟩, .int .i64 0, .int .i64 0, .slice none 0 0] 40)))
  have K0 := hide ((Kept.refl (fun b => b = p) w).alloc (.cells #[.string ⟨#[]⟩, .int .i64 0, .int .i64 0, .slice none 0 0] 40))
  have HU := hide hu
  clear h hu
  go_enter Tryz.func173, Tryz.ntmps173
  go_wp2_with fail
  refine (path_e p zs T _ S0.out HU.out (by omega) hl).mono ?_
  rintro r w1 ⟨x, rfl, hf, hxl, s1, k1⟩
  have S1 := hide s1
  have K1 := hide (K0.out.trans k1)
  have X1 := hide (X0.out.kept k1 (by omega))
  have HF := hide hf
  clear s1 k1 hf X0 S0 K0
  go_wp2_with fail
  refine (next_e p zs _ 7 _ S1.out HU.out (by omega) (by decide) (by decide) hl).mono ?_
  rintro r w2 ⟨i, rfl, hi, s2, k2⟩
  have S2 := hide s2
  have K2 := hide (K1.out.trans k2)
  have X2 := hide (X1.out.kept k2 (by omega))
  have hw2 : w.heap.size < w2.heap.size := X2.out.1.lt
  clear s2 k2 S1 K1 X1
  by_cases h0 : i = 0
  · subst h0
    · obtain ⟨⟨q0, q1, q2, q3⟩, qf⟩ := X2.out
      have qf0 := qf 0
      have qf1 := qf 1
      have qf2 := qf 2
      have qf3 := qf 3
      go_wp2_with fail
      have hk : Kept (fun b => b = w.heap.size) w2 ((((w2.setCell ⟨w.heap.size, 0, none⟩ (.string (str x))).setCell ⟨w.heap.size, 1, none⟩ (.int .i64 3)).setCell ⟨w.heap.size, 2, none⟩ (.int .i64 0)).setCell ⟨w.heap.size, 3, none⟩ (.slice none 0 0)) := Kept.setCell (S := fun b => b = w.heap.size) (p := ⟨w.heap.size, 3, none⟩) (Kept.setCell (S := fun b => b = w.heap.size) (p := ⟨w.heap.size, 2, none⟩) (Kept.two _ _ _ _ _ _) (fun _ => rfl) _) (fun _ => rfl) _
      exact bodyPost_ret (v := .agg #[.string (str x), .int .i64 3, .int .i64 0, .slice none 0 0]) (by simp [results, Tryz.results173, go_sem, q0, q1, q2, q3]) rfl ⟨⟨x, 3, 0, []⟩, none, 0, rfl, ⟨bare_right HF.out (by decide), hxl⟩, World.ownsRow_nil _ _ _ _, (S2.out.kept hk (fun b hb e => by omega)).mono (by omega), K2.out.trans_own hk (fun b hb e => by omega)⟩
  · by_cases h1 : i = 1
    · subst h1
      obtain ⟨⟨q0, q1, q2, q3⟩, qf⟩ := X2.out
      have qf0 := qf 0
      have qf1 := qf 1
      have qf2 := qf 2
      have qf3 := qf 3
      go_wp2_with fail
      have hk : Kept (fun b => b = w.heap.size) w2 ((((w2.setCell ⟨w.heap.size, 0, none⟩ (.string (str x))).setCell ⟨w.heap.size, 1, none⟩ (.int .i64 4)).setCell ⟨w.heap.size, 2, none⟩ (.int .i64 0)).setCell ⟨w.heap.size, 3, none⟩ (.slice none 0 0)) := Kept.setCell (S := fun b => b = w.heap.size) (p := ⟨w.heap.size, 3, none⟩) (Kept.setCell (S := fun b => b = w.heap.size) (p := ⟨w.heap.size, 2, none⟩) (Kept.two _ _ _ _ _ _) (fun _ => rfl) _) (fun _ => rfl) _
      exact bodyPost_ret (v := .agg #[.string (str x), .int .i64 4, .int .i64 0, .slice none 0 0]) (by simp [results, Tryz.results173, go_sem, q0, q1, q2, q3]) rfl ⟨⟨x, 4, 0, []⟩, none, 0, rfl, ⟨bare_right HF.out (by decide), hxl⟩, World.ownsRow_nil _ _ _ _, (S2.out.kept hk (fun b hb e => by omega)).mono (by omega), K2.out.trans_own hk (fun b hb e => by omega)⟩
    · by_cases h2 : i = 2 ∨ i = 3
      · rcases h2 with rfl | rfl
        · obtain ⟨⟨q0, q1, q2, q3⟩, qf⟩ := X2.out
          have qf0 := qf 0
          have qf1 := qf 1
          have qf2 := qf 2
          have qf3 := qf 3
          go_wp2_with fail
          have hk : Kept (fun b => b = w.heap.size) w2 ((((w2.setCell ⟨w.heap.size, 0, none⟩ (.string (str x))).setCell ⟨w.heap.size, 1, none⟩ (.int .i64 2)).setCell ⟨w.heap.size, 2, none⟩ (.int .i64 0)).setCell ⟨w.heap.size, 3, none⟩ (.slice none 0 0)) := Kept.setCell (S := fun b => b = w.heap.size) (p := ⟨w.heap.size, 3, none⟩) (Kept.setCell (S := fun b => b = w.heap.size) (p := ⟨w.heap.size, 2, none⟩) (Kept.two _ _ _ _ _ _) (fun _ => rfl) _) (fun _ => rfl) _
          exact bodyPost_ret (v := .agg #[.string (str x), .int .i64 2, .int .i64 0, .slice none 0 0]) (by simp [results, Tryz.results173, go_sem, q0, q1, q2, q3]) rfl ⟨⟨x, 2, 0, []⟩, none, 0, rfl, ⟨bare_right HF.out (by decide), hxl⟩, World.ownsRow_nil _ _ _ _, (S2.out.kept hk (fun b hb e => by omega)).mono (by omega), K2.out.trans_own hk (fun b hb e => by omega)⟩
        · obtain ⟨⟨q0, q1, q2, q3⟩, qf⟩ := X2.out
          have qf0 := qf 0
          have qf1 := qf 1
          have qf2 := qf 2
          have qf3 := qf 3
          go_wp2_with fail
          have hk : Kept (fun b => b = w.heap.size) w2 ((((w2.setCell ⟨w.heap.size, 0, none⟩ (.string (str x))).setCell ⟨w.heap.size, 1, none⟩ (.int .i64 2)).setCell ⟨w.heap.size, 2, none⟩ (.int .i64 0)).setCell ⟨w.heap.size, 3, none⟩ (.slice none 0 0)) := Kept.setCell (S := fun b => b = w.heap.size) (p := ⟨w.heap.size, 3, none⟩) (Kept.setCell (S := fun b => b = w.heap.size) (p := ⟨w.heap.size, 2, none⟩) (Kept.two _ _ _ _ _ _) (fun _ => rfl) _) (fun _ => rfl) _
          exact bodyPost_ret (v := .agg #[.string (str x), .int .i64 2, .int .i64 0, .slice none 0 0]) (by simp [results, Tryz.results173, go_sem, q0, q1, q2, q3]) rfl ⟨⟨x, 2, 0, []⟩, none, 0, rfl, ⟨bare_right HF.out (by decide), hxl⟩, World.ownsRow_nil _ _ _ _, (S2.out.kept hk (fun b hb e => by omega)).mono (by omega), K2.out.trans_own hk (fun b hb e => by omega)⟩
      · have e0 : ((i : Int) == 0) = false := by simp; omega
        have e1 : ((i : Int) == 1) = false := by simp; omega
        have e2 : ((i : Int) == 2) = false := by simp; omega
        have e3 : ((i : Int) == 3) = false := by simp; omega
        clear h0 h1 h2
        go_wp2_with fail
        refine (next_e p zs _ 14 _ S2.out HU.out (by omega) (by decide) (by decide) hl).mono ?_
        rintro r w3 ⟨j, rfl, hj, s3, k3⟩
        have S3 := hide s3
        have K3 := hide (K2.out.trans k3)
        have X3 := hide (X2.out.kept k3 (by omega))
        clear s3 k3 S2 K2 X2
        go_wp2_with fail
        refine (some_e p j zs _ _ S3.out HU.out (by omega) hl (by omega)).mono ?_
        rintro r w4 ⟨da, dc, ds, rfl, hdl, hdu, ho4, s4, k4⟩
        subst hdl
        have RD := hide (ownInts_reads ho4 rfl)
        have hcap := ownsRow_cap ho4
        have S4 := hide s4
        have K4 := hide (K3.out.trans k4)
        have X4 := hide (X3.out.kept k4 (by omega))
        have DU := hide hdu
        clear s4 k4 S3 K3 X3 ho4 hdu
        go_wp2_with fail
        refine (l4File_any x da dc ds _ RD.out DU.out hcap (by omega)).mono ?_
        rintro r w5 ⟨av, cv, rfl, ho5, hb5⟩
        have hls := digs_len ds
        have S5 := hide (S4.out.below hb5)
        have K5 := hide (K4.out.trans (Kept.of_below hb5))
        obtain ⟨⟨q0, q1, q2, q3⟩, qf⟩ := X4.out.below hb5
        have qf0 := qf 0
        have qf1 := qf 1
        have qf2 := qf 2
        have qf3 := qf 3
        have O5 := hide ho5
        have hw4 : w.heap.size < w4.heap.size := X4.out.1.lt
        clear ho5 hb5 S4 K4 X4 qf
        go_wp2_with fail
        have hk : Kept (fun b => b = w.heap.size) w5 ((((w5.setCell ⟨w.heap.size, 0, none⟩ (.string (str x))).setCell ⟨w.heap.size, 1, none⟩ (.int .i64 1)).setCell ⟨w.heap.size, 2, none⟩ (.int .i64 ds.length)).setCell ⟨w.heap.size, 3, none⟩ (.slice av (cut ds).length cv)) := Kept.setCell (S := fun b => b = w.heap.size) (p := ⟨w.heap.size, 3, none⟩) (Kept.setCell (S := fun b => b = w.heap.size) (p := ⟨w.heap.size, 2, none⟩) (Kept.two _ _ _ _ _ _) (fun _ => rfl) _) (fun _ => rfl) _
        refine bodyPost_ret (v := .agg #[.string (str x), .int .i64 1, .int .i64 ds.length, .slice av (cut ds).length cv]) (by simp [results, Tryz.results173, go_sem, q0, q1, q2, q3]) rfl ⟨fileE x ds, av, cv, by rw [show (fileE x ds).chunks.length = (cut ds).length from hls]; rfl, ⟨file_right HF.out (by omega), hxl⟩, ?_, (S5.out.kept hk (fun b hb e => by omega)).mono (by omega), K5.out.trans_own hk (fun b hb e => by omega)⟩
        rw [show (fileE x ds).chunks.length = (cut ds).length from hls]
        exact ownsRow_mono (ownsRow_kept O5.out hk (fun b hb hS => by have := (O5.out.lt b hb).1; omega)) (by omega)

end Go.Proofs.YtejipahfodhmjaaGreat

namespace Go.Proofs.YtejipahfodhmjaaGreat
open Go.RowKit Go.Maps
set_option linter.unusedVariables false

theorem entFault_chunks {e : En} (h : entFault e = 0) : e.chunks.length ≤ 3 := by
  have hp := entFault_zero h
  cases h1 : formE e
  · rw [entFault_form hp h1] at h; omega
  · cases h2 : sizeE e
    · rw [entFault_size hp h1 h2] at h; omega
    · cases h3 : manyE e
      · rw [entFault_many hp h1 h2 h3] at h; omega
      · have h2' : 0 ≤ e.size ∧ e.size ≤ 24 := by simpa [sizeE] using h2
        have h3' : (e.chunks.length : Int) = (e.size + 7) / 8 := by simpa [manyE] using h3
        omega
end Go.Proofs.YtejipahfodhmjaaGreat

