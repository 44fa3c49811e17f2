/-
  Texts put together: OvrH OvrJ Flat Chunks ChunksRd Fault.
-/
import Derived.Test.YtejipahfodhmjaaGreatKIsWhol7
import Derived.Test.YtejipahfodhmjaaGreatKIsWhol6
import Derived.Test.YtejipahfodhmjaaGreatKIsWhol1
import Derived.Test.YtejipahfodhmjaaGreatKIsWhol4
namespace Go.Proofs.YtejipahfodhmjaaGreat
open Go.RowKit Go.Maps
set_option linter.unusedVariables false
attribute [local go_sem ↓] Go.wp_at_zero Go.wp_at_succ

theorem over_is_two {es : List En} {ups : List Bs} (h : overN es ups = 2) : ∃ u ∈ ups, rankE es u = 2 := by
  unfold overN at h
  split at h
  · rename_i h2
    obtain ⟨u, hu, hr⟩ := List.any_eq_true.1 h2
    exact ⟨u, hu, of_decide_eq_true hr⟩
  · split at h <;> omega
theorem rank_is_two {es : List En} {u : Bs} (h : rankE es u = 2) : ∃ d, findE es u = some d ∧ (d.kind = 3 ∨ d.kind = 1) := by
  unfold rankE at h
  cases hf : findE es u with
  | none => rw [hf] at h; simp at h
  | some d =>
    rw [hf] at h
    refine ⟨d, rfl, ?_⟩
    by_cases hk : d.kind = 3 ∨ d.kind = 1
    · exact hk
    · simp only [hk, if_false] at h
      split at h <;> omega
theorem over_there {es : List En} (h : Right es) {p : Bs} (hp : faultP p = 0) {e : En} (he : findE es p = some e) : overN es (above p) ≠ 2 := by
  intro h2
  obtain ⟨u, hu, hr⟩ := over_is_two h2
  obtain ⟨d, hd, hk⟩ := rank_is_two hr
  have hb : isBelow p u = true := by simpa [isBelow] using hu
  rw [isBelow_good hp] at hb
  obtain ⟨hpu, hbl⟩ := of_decide_eq_true hb
  obtain ⟨hem, rfl⟩ := find_mem he
  obtain ⟨d', hd', hpd, hk'⟩ := (right_fit.1 h).1.up hpu hem hbl
  have h3 := rise_find h.rise hd'
  rw [hpd, hd] at h3
  cases h3
  simp only [dirK, decide_eq_true_eq] at hk'
  omega
theorem up_over {es : List En} (h : Right es) (p : Bs) : ((above p).any fun u => (findE es u).any fun e => !decide (e.kind = 2)) = decide (overN es (above p) ≠ 0) := by
  rw [Bool.eq_iff_iff, decide_eq_true_iff, over_zero, List.any_eq_true]
  constructor
  · rintro ⟨u, hu, hr⟩
    have : hideAt es u = true := hr
    rw [rank_hide h] at this
    exact ⟨u, hu, of_decide_eq_true this⟩
  · rintro ⟨u, hu, hr⟩
    exact ⟨u, hu, by have : hideAt es u = true := by rw [rank_hide h]; exact decide_eq_true hr
                     exact this⟩
theorem seeL_at {ls : List (List En)} {m : Nat} {es : List En} (h : ls[m]? = some es) (q : Bs) : seeL ls m q = findE es q := by simp [seeL, h]
theorem seen_up {ls : List (List En)} {m : Nat} {es : List En} (h : ls[m]? = some es) (hR : Right es) {p : Bs} (hn : findE es p = none) (ho : overN es (above p) ≠ 0) : seenG (seeL ls) p (m + 1) = none := by
  refine seen_hid (by rw [seeL_at h]; exact hn) ?_
  have := up_over hR p
  rw [decide_eq_true ho] at this
  rw [← this]
  simp only [seeL_at h]
theorem seen_on {ls : List (List En)} {m : Nat} {es : List En} (h : ls[m]? = some es) (hR : Right es) {p : Bs} (hn : findE es p = none) (ho : overN es (above p) = 0) : seenG (seeL ls) p (m + 1) = seenG (seeL ls) p m := by
  refine seen_down (by rw [seeL_at h]; exact hn) ?_
  have := up_over hR p
  rw [decide_eq_false (by omega)] at this
  rw [← this]
  simp only [seeL_at h]

set_option maxRecDepth 100000 in
set_option maxHeartbeats 6400000 in
theorem l8Place_any (a : Option Addr) (c n : Nat) (ls : List (List En)) (p : Bs) (w : World) (h : RdL w a ls) (hn : n = ls.length) (h4 : ls.length ≤ 4) (hR : ∀ es ∈ ls, Right es) (hp : faultP p = 0) (hpl : p.length ≤ 1048576) :
    Calls Tryz.prog 63 #[.slice a n c, .string (str p)] w fun r w' => r = .returned (.int .i64 (placeI (seenL ls p))) ∧ Below w.heap.size w w' := by
  subst hn
  have HR := hide h
  have HRi := hide hR
  have HV0 := hide (show seenL ls p = seenG (seeL ls) p ls.length from seen_over h4)
  have hw1 : IntKind.i64.wrap ((ls.length : Int) - 1) = (ls.length : Int) - 1 := by simp [IntKind.wrap, IntKind.signed, IntKind.bits]; omega
  clear h hR
  generalize hV : seenL ls p = V at *
  clear hV
  go_enter Tryz.func63, Tryz.ntmps63
  go_wp2_with fail
  go_loopw [5] (fun i wr => ∃ k : Nat, k ≤ ls.length ∧ i = .int .i64 ((k : Int) - 1) ∧ Hid (V = seenG (seeL ls) p k) ∧ Hid (Below w.heap.size w wr)) (fun i _ => (intOf i + 1).toNat)
  case atStart => exact ⟨ls.length, Nat.le_refl _, rfl, HV0, hide (Below.refl _ _)⟩
  case round =>
    obtain ⟨k, hk, hi, HV, HW⟩ := hrel
    cases k with
    | zero =>
      rw [show ((0 : Nat) : Int) - 1 = -1 from rfl] at hi
      subst hi
      have HN := hide (show V = none from HV.out)
      go_wp2_with fail
      go_ret
      exact ⟨by rw [HN.out]; rfl, HW.out⟩
    | succ m =>
      rw [show ((m + 1 : Nat) : Int) - 1 = (m : Int) from by omega] at hi
      subst hi
      have hm0 : (0 : Int) ≤ (m : Int) := by omega
      have hm1 : (m : Int) < (ls.length : Int) := by omega
      have hm2 : IntKind.i64.wrap ((m : Int) - 1) = (m : Int) - 1 := by simp [IntKind.wrap, IntKind.signed, IntKind.bits]; omega
      obtain ⟨b, off, es, x, cc, rfl, hb, he, c0, hr⟩ := (HR.out.below HW.out).at (k := m) (by omega)
      have hRi := HRi.out es (List.mem_of_getElem? he)
      have hel := hRi.len
      have HX := hide he
      have HRI := hide hRi
      have HOV := hide (l8Over_any x cc es.length es p wr hr rfl (by omega) hp hpl)
      have HAT : Hid (∀ w', Below wr.heap.size wr w' → Calls Tryz.prog 78 #[.slice x es.length cc, .string (str p)] w' fun r w2 => r = .returned (.int .i64 (placeI (atE es p))) ∧ w2 = w') := hide (fun w' hb' => l4At_any x cc es.length es p w' (hr.below hb') rfl (by omega))
      have HRE := hide hr
      have KC : Hid (∀ w', Below wr.heap.size wr w' → w'.cell? ⟨b, off + m, none⟩ = some (.slice x es.length cc)) := hide (fun w' hb' => (hb'.cell (p := ⟨b, off + m, none⟩) hb).trans c0)
      clear he hRi hr
      cases ha : atE es p with
      | none =>
        have hf := find_at_none ha
        rw [ha] at HAT
        have e1 : placeI none = -1 := rfl
        rw [e1] at HAT
        clear ha e1
        rcases over_cases es (above p) with ho | ho | ho
        · have HN := hide (HV.out.trans (seen_on HX.out HRI.out hf ho))
          rw [ho] at HOV
          clear hf ho
          go_wp2_with fail
          refine HOV.out.mono ?_
          rintro r w1 ⟨rfl, hb1⟩
          have B1 := hide hb1
          have c1 := KC.out w1 hb1
          clear hb1 c0
          go_wp2_with fail
          refine (HAT.out w1 B1.out).mono ?_
          rintro r w2 ⟨rfl, rfl⟩
          go_wp2_with fail
          go_roundw
          case rel => exact ⟨m, by omega, rfl, HN, hide (below_next HW.out B1.out)⟩
          case measure => simp [intOf]
        · have HN := hide (HV.out.trans (seen_up HX.out HRI.out hf (by omega)))
          rw [ho] at HOV
          clear hf ho
          go_wp2_with fail
          refine HOV.out.mono ?_
          rintro r w1 ⟨rfl, hb1⟩
          have B1 := hide hb1
          have c1 := KC.out w1 hb1
          clear hb1 c0
          go_wp2_with fail
          refine (HAT.out w1 B1.out).mono ?_
          rintro r w2 ⟨rfl, rfl⟩
          go_wp2_with fail
          go_ret
          exact ⟨by rw [HN.out]; rfl, below_next HW.out B1.out⟩
        · have HN := hide (HV.out.trans (seen_up HX.out HRI.out hf (by omega)))
          rw [ho] at HOV
          clear hf ho
          go_wp2_with fail
          refine HOV.out.mono ?_
          rintro r w1 ⟨rfl, hb1⟩
          have B1 := hide hb1
          clear hb1 c0
          go_wp2_with fail
          go_ret
          exact ⟨by rw [HN.out]; rfl, below_next HW.out B1.out⟩
      | some q =>
        obtain ⟨e, he, hf⟩ := find_at_some ha
        have hq := atE_lt ha
        have hno := over_there HRI.out hp hf
        have HHit := hide (HV.out.trans (seen_hit (by rw [seeL_at HX.out]; exact hf)))
        rw [ha] at HAT
        have e1 : placeI (some q) = (q : Int) := rfl
        rw [e1] at HAT
        have hq0 : (0 : Int) ≤ (q : Int) := by omega
        have hq1 : (q : Int) < (es.length : Int) := by omega
        obtain ⟨bb, off2, e', x', cc', rfl, hb2, he', z0, z1, z2, z3, hr'⟩ := HRE.out.at hq
        have : e' = e := Option.some.inj (he'.symm.trans he)
        subst this
        have KZ : Hid (∀ w', Below wr.heap.size wr w' → w'.cell? ⟨bb, off2 + q * 4 + 1, none⟩ = some (.int .i64 e'.kind)) := hide (fun w' hb' => (hb'.cell (p := ⟨bb, off2 + q * 4 + 1, none⟩) hb2).trans z1)
        have h2 : (overN es (above p) == 2) = false := by simpa using hno
        generalize overN es (above p) = O at *
        clear ha e1 he he' hr' z0 z1 z2 z3 hno hf
        by_cases h3 : e'.kind = 3
        · rw [if_pos h3] at HHit
          have h3' : (e'.kind == 3) = true := by simpa using h3
          clear h3
          go_wp2_with fail
          refine HOV.out.mono ?_
          rintro r w1 ⟨rfl, hb1⟩
          have B1 := hide hb1
          have c1 := KC.out w1 hb1
          have z1 := KZ.out w1 hb1
          clear hb1 c0
          go_wp2_with fail
          refine (HAT.out w1 B1.out).mono ?_
          rintro r w2 ⟨rfl, rfl⟩
          go_wp2_with fail
          go_ret
          exact ⟨by rw [HHit.out]; rfl, below_next HW.out B1.out⟩
        · rw [if_neg h3] at HHit
          have h3' : (e'.kind == 3) = false := by simpa using h3
          clear h3
          go_wp2_with fail
          refine HOV.out.mono ?_
          rintro r w1 ⟨rfl, hb1⟩
          have B1 := hide hb1
          have c1 := KC.out w1 hb1
          have z1 := KZ.out w1 hb1
          clear hb1 c0
          go_wp2_with fail
          refine (HAT.out w1 B1.out).mono ?_
          rintro r w2 ⟨rfl, rfl⟩
          go_wp2_with fail
          go_ret
          exact ⟨by rw [HHit.out]; rfl, below_next HW.out B1.out⟩
set_option maxRecDepth 100000 in
set_option maxHeartbeats 1600000 in
theorem l8In_any (a : Option Addr) (c n : Nat) (ps : List Bs) (p : Bs) (w : World) (h : ReadsS w a ps) (hn : n = ps.length) (hl : ps.length ≤ 1048576) :
    Calls Tryz.prog 64 #[.slice a n c, .string (str p)] w fun r w' => r = .returned (.bool (decide (p ∈ ps))) ∧ w' = w := by
  subst hn
  have HR := hide h
  clear h
  go_enter Tryz.func64, Tryz.ntmps64
  go_wp2_with fail
  go_loopw [5] (fun i wr => ∃ k : Nat, k ≤ ps.length ∧ i = .int .i64 k ∧ wr = w ∧ Hid (p ∉ ps.take k)) (fun i _ => ps.length - (intOf i).toNat)
  case atStart => exact ⟨0, Nat.zero_le _, rfl, rfl, hide (by simp)⟩
  case round =>
    obtain ⟨k, hk, rfl, rfl, HN⟩ := hrel
    by_cases hlt : k < ps.length
    · obtain ⟨b, off, q, rfl, hb, he, c0⟩ := HR.out.at hlt
      have hk0 : (0 : Int) ≤ (k : Int) := by omega
      have hk1 : (k : Int) < (ps.length : Int) := by omega
      by_cases hq : q = p
      · have hq2 := str_yes hq
        have HT := hide (show decide (p ∈ ps) = true from decide_eq_true (by rw [← hq]; exact List.mem_of_getElem? he))
        clear hq he
        go_wp2_with fail
        go_ret
        exact ⟨by rw [HT.out]; rfl, rfl⟩
      · have hq2 := str_no hq
        have HT := hide (show p ∉ ps.take (k + 1) from by
          rw [take_at he]
          intro hm
          rcases List.mem_append.1 hm with hm | hm
          · exact HN.out hm
          · simp at hm; exact hq hm.symm)
        clear hq he
        go_wp2_with fail
        go_roundw
        case rel => exact ⟨k + 1, by omega, by go_num, (by first | rfl | trivial), HT⟩
        case measure => simp [intOf]; omega
    · have HT := hide (show decide (p ∈ ps) = false from decide_eq_false (by have := HN.out; rwa [List.take_of_length_le (by omega)] at this))
      go_wp2_with fail
      go_ret
      exact ⟨by rw [HT.out]; rfl, rfl⟩
end Go.Proofs.YtejipahfodhmjaaGreat

namespace Go.Proofs.YtejipahfodhmjaaGreat
set_option linter.unusedVariables false

def RiseS (ns : List Bs) : Prop := ns.Pairwise fun x y => Op.bytesLess x y = true
def mkE (n : Bs) : En := ⟨n, 0, 0, []⟩
theorem riseS_mk {ns : List Bs} : Rise (ns.map mkE) ↔ RiseS ns := by
  unfold Rise RiseS
  rw [List.pairwise_map]
  exact Iff.rfl
theorem map_mk_path (ns : List Bs) : (ns.map mkE).map En.path = ns := by
  rw [List.map_map]
  conv => rhs; rw [← List.map_id ns]
  exact List.map_congr_left fun _ _ => rfl
theorem riseS_ext {a b : List Bs} (ha : RiseS a) (hb : RiseS b) (h : ∀ x, x ∈ a ↔ x ∈ b) : a = b := by
  have h1 : a.map mkE = b.map mkE := by
    have hra := riseS_mk.2 ha
    have hrb := riseS_mk.2 hb
    refine rise_ext hra hrb (fun q => ?_)
    by_cases hq : q ∈ a
    · have e1 := rise_find hra (List.mem_map.2 ⟨q, hq, rfl⟩)
      have e2 := rise_find hrb (List.mem_map.2 ⟨q, (h q).1 hq, rfl⟩)
      exact e1.trans e2.symm
    · have hq2 : q ∉ b := fun hb => hq ((h q).2 hb)
      rw [find_none (fun x hx e => ?_), find_none (fun x hx e => ?_)]
      · obtain ⟨y, hy, rfl⟩ := List.mem_map.1 hx
        exact hq2 (by rw [← e]; exact hy)
      · obtain ⟨y, hy, rfl⟩ := List.mem_map.1 hx
        exact hq (by rw [← e]; exact hy)
  rw [← map_mk_path a, ← map_mk_path b, h1]
theorem putS_mk (ps : List Bs) (p : Bs) : (putS ps p).map mkE = putAt (ps.map mkE) (mkE p) := by
  have h1 : lowN (ps.map mkE) p = lowS ps p := by
    unfold lowN lowS
    rw [List.takeWhile_map, List.length_map]
    rfl
  unfold putS putAt
  rw [show (mkE p).path = p from rfl, h1]
  simp
theorem mem_putS {ps : List Bs} {p x : Bs} : x ∈ putS ps p ↔ x = p ∨ x ∈ ps := by
  have h1 : mkE x ∈ (putS ps p).map mkE ↔ x ∈ putS ps p := by
    constructor
    · intro h
      obtain ⟨y, hy, he⟩ := List.mem_map.1 h
      have : y = x := congrArg En.path he
      rw [← this]; exact hy
    · exact fun h => List.mem_map.2 ⟨x, h, rfl⟩
  rw [← h1, putS_mk, mem_putAt]
  constructor
  · rintro (h | h)
    · exact .inl (congrArg En.path h)
    · obtain ⟨y, hy, he⟩ := List.mem_map.1 h
      have : y = x := congrArg En.path he
      exact .inr (by rw [← this]; exact hy)
  · rintro (h | h)
    · exact .inl (by rw [h])
    · exact .inr (List.mem_map.2 ⟨x, h, rfl⟩)
theorem riseS_put {ps : List Bs} {p : Bs} (h : RiseS ps) (hn : p ∉ ps) : RiseS (putS ps p) := by
  rw [← riseS_mk, putS_mk]
  refine rise_putAt (riseS_mk.2 h) (fun x hx e => ?_)
  obtain ⟨y, hy, rfl⟩ := List.mem_map.1 hx
  have : y = p := e
  exact hn (by rw [← this]; exact hy)
end Go.Proofs.YtejipahfodhmjaaGreat

namespace Go.Proofs.YtejipahfodhmjaaGreat
open Go.RowKit
set_option linter.unusedVariables false

def flat (n : Nat) (F : Nat → List Value) : List Value := (List.range n).flatMap F

theorem flat_succ (n : Nat) (F : Nat → List Value) : flat (n + 1) F = flat n F ++ F n := by
  simp [flat, List.range_succ]
theorem flat_length {k : Nat} {F : Nat → List Value} : ∀ {n : Nat}, (∀ i, i < n → (F i).length = k) → (flat n F).length = n * k
  | 0, _ => by simp [flat]
  | n + 1, h => by
    rw [flat_succ, List.length_append, flat_length (fun i hi => h i (by omega)), h n (by omega), Nat.succ_mul]
theorem flat_get {k : Nat} {F : Nat → List Value} : ∀ {n : Nat}, (∀ i, i < n → (F i).length = k) → ∀ i r, i < n → r < k → (flat n F)[i * k + r]? = (F i)[r]?
  | 0, _, i, r, hi, _ => by omega
  | n + 1, h, i, r, hi, hr => by
    have hl := flat_length (n := n) (F := F) (k := k) (fun i hi => h i (by omega))
    rw [flat_succ]
    by_cases e : i = n
    · subst e
      rw [List.getElem?_append_right (by omega), hl]
      congr 1
      omega
    · have hlt : i * k + r < n * k := by
        have : (i + 1) * k ≤ n * k := Nat.mul_le_mul_right k (by omega)
        rw [Nat.succ_mul] at this
        omega
      rw [List.getElem?_append_left (by omega)]
      exact flat_get (fun i hi => h i (by omega)) i r (by omega) hr
theorem flat_congr {F G : Nat → List Value} {n : Nat} (h : ∀ i, i < n → F i = G i) : flat n F = flat n G := by
  unfold flat
  induction n with
  | zero => rfl
  | succ n ih =>
    rw [List.range_succ, List.flatMap_append, List.flatMap_append, ih (fun i hi => h i (by omega))]
    simp [h n (by omega)]
theorem flat_set {k : Nat} {F : Nat → List Value} {n : Nat} (h : ∀ i, i < n → (F i).length = k) (i r : Nat) (hi : i < n) (hr : r < k) (u : Value) :
    (flat n F).set (i * k + r) u = flat n (fun t => if t = i then (F t).set r u else F t) := by
  have h' : ∀ t, t < n → (if t = i then (F t).set r u else F t).length = k := fun t ht => by
    by_cases e : t = i
    · rw [if_pos e, List.length_set]; exact h t ht
    · rw [if_neg e]; exact h t ht
  have l1 := flat_length h
  have l2 := flat_length h'
  apply List.ext_getElem?
  intro p
  by_cases hp : p < n * k
  · have hk : 0 < k := by omega
    have e : p = p / k * k + p % k := by rw [Nat.mul_comm]; exact (Nat.div_add_mod p k).symm
    have h1 : p / k < n := Nat.div_lt_of_lt_mul (by rw [Nat.mul_comm]; exact hp)
    have h2 : p % k < k := Nat.mod_lt _ hk
    generalize p / k = a at e h1
    generalize p % k = b at e h2
    subst e
    rw [flat_get h' a b h1 h2]
    by_cases ea : a = i
    · subst ea
      rw [if_pos rfl]
      by_cases eb : b = r
      · subst eb
        rw [List.getElem?_set_self (by omega), List.getElem?_set_self (by rw [h a h1]; omega)]
      · rw [List.getElem?_set_ne (by omega), List.getElem?_set_ne (by omega), flat_get h a b h1 h2]
    · rw [if_neg ea]
      have hne : i * k + r ≠ a * k + b := by
        intro e
        rcases Nat.lt_or_gt_of_ne ea with hlt | hgt
        · have : (a + 1) * k ≤ i * k := Nat.mul_le_mul_right k hlt
          rw [Nat.succ_mul] at this
          omega
        · have : (i + 1) * k ≤ a * k := Nat.mul_le_mul_right k hgt
          rw [Nat.succ_mul] at this
          omega
      rw [List.getElem?_set_ne hne, flat_get h a b h1 h2]
  · rw [List.getElem?_eq_none (by rw [List.length_set]; omega), List.getElem?_eq_none (by omega)]

end Go.Proofs.YtejipahfodhmjaaGreat

namespace Go.Proofs.YtejipahfodhmjaaGreat
open Go.RowKit
set_option linter.unusedVariables false

def RdC (w : World) (a : Option Addr) (D : Nat → Int) (P : Nat → List Int) (n : Nat) : Prop :=
  0 < n → ∃ (b off : Nat) (A : Nat → Option Addr) (C : Nat → Nat), a = some ⟨b, off, none⟩ ∧ b < w.heap.size ∧ ∀ i, i < n → w.cell? ⟨b, off + i * 2, none⟩ = some (.int .i64 (D i)) ∧ w.cell? ⟨b, off + i * 2 + 1, none⟩ = some (.slice (A i) (P i).length (C i)) ∧ Reads .u8 w (A i) (P i)

theorem RdC.below {w w' : World} {a : Option Addr} {D : Nat → Int} {P : Nat → List Int} {n : Nat} (h : RdC w a D P n) (hk : Below w.heap.size w w') : RdC w' a D P n := by
  intro hn
  obtain ⟨b, off, A, C, e, hb, hc⟩ := h hn
  exact ⟨b, off, A, C, e, Nat.lt_of_lt_of_le hb hk.size, fun i hi => ⟨(hk.cell (p := ⟨b, off + i * 2, none⟩) hb).trans (hc i hi).1, (hk.cell (p := ⟨b, off + i * 2 + 1, none⟩) hb).trans (hc i hi).2.1, (hc i hi).2.2.below hk⟩⟩

def chCells (D : Nat → Int) (P : Nat → List Int) (A : Nat → Option Addr) (C : Nat → Nat) (i : Nat) : List Value := [.int .i64 (D i), .slice (A i) (P i).length (C i)]

def GC (B T : Nat) (w : World) (v : Value) (D : Nat → Int) (P : Nat → List Int) (n : Nat) : Prop :=
  ∃ (A : Nat → Option Addr) (C : Nat → Nat), w.ownsRow B 108 2 v n (flat n (chCells D P A C)) ∧
    (∀ i, i < n → w.ownsRow B 5 1 (.slice (A i) (P i).length (C i)) (P i).length ((P i).map (Value.int .u8))) ∧
    (∀ i i' g, i < n → i' < n → (A i).map Addr.block = some g → (A i').map Addr.block = some g → i = i') ∧
    (∀ i g, i < n → (A i).map Addr.block = some g → g < T) ∧ ∀ b, v.ownBlock = some b → b < T

theorem Tryz.infoCh : (Tryz.prog.info? 108).map (fun i => (i.zero, i.size, i.bytes)) = some (some (.agg #[.int .i64 0, .slice none 0 0]), 2, 32) := by kernel_rfl

set_option maxHeartbeats 400000 in
theorem toChunk_any (d : Int) (a : Option Addr) (c : Nat) (zs : List Int) (w : World) (h : Reads .u8 w a zs) (hl : zs.length ≤ 1048576) :
    Calls Tryz.prog 69 #[.agg #[.int .i64 d, .slice a zs.length c]] w fun e w' => ∃ g, e = .returned (.agg #[.int .i64 d, .slice (some ⟨g, 0, none⟩) zs.length zs.length]) ∧ w.heap.size ≤ g ∧ w'.ownsRow w.heap.size 5 1 (.slice (some ⟨g, 0, none⟩) zs.length zs.length) zs.length (zs.map (Value.int .u8)) ∧ Below w.heap.size w w' := by
  have HR := hide h
  clear h
  go_enter Tryz.func69, Tryz.ntmps69
  go_wp2_with fail
  have X1 := hide ((Box.new (w.alloc (.cells #[.int .i64 d, .slice a zs.length c] 124)) (.int .i64 0) (.slice none 0 0) 108).below (below_alloc _ (.cells #[.int .i64 d, .slice none 0 0] 108)))
  have X2 := hide (Box.new ((w.alloc (.cells #[.int .i64 d, .slice a zs.length c] 124)).alloc (.cells #[.int .i64 0, .slice none 0 0] 108)) (.int .i64 d) (.slice none 0 0) 108)
  have B0 := hide (below_next (below_next (below_alloc w (.cells #[.int .i64 d, .slice a zs.length c] 124)) (below_alloc _ (.cells #[.int .i64 0, .slice none 0 0] 108))) (below_alloc _ (.cells #[.int .i64 d, .slice none 0 0] 108)))
  have hsz : (((w.alloc (.cells #[.int .i64 d, .slice a zs.length c] 124)).alloc (.cells #[.int .i64 0, .slice none 0 0] 108)).alloc (.cells #[.int .i64 d, .slice none 0 0] 108)).heap.size = w.heap.size + 3 := by simp
  have h1 : (w.alloc (.cells #[.int .i64 d, .slice a zs.length c] 124)).heap.size = w.heap.size + 1 := by simp
  have h2 : ((w.alloc (.cells #[.int .i64 d, .slice a zs.length c] 124)).alloc (.cells #[.int .i64 0, .slice none 0 0] 108)).heap.size = w.heap.size + 1 + 1 := by simp
  rw [h1] at X1
  rw [h2] at X2
  clear h1 h2
  generalize ((w.alloc (.cells #[.int .i64 d, .slice a zs.length c] 124)).alloc (.cells #[.int .i64 0, .slice none 0 0] 108)).alloc (.cells #[.int .i64 d, .slice none 0 0] 108) = W at *
  have HZ := hide hsz
  clear hsz
  refine (toByteS_own a c zs _ (HR.out.below B0.out) hl).mono ?_
  rintro e w1 ⟨g, rfl, hg, ho, b1⟩
  obtain ⟨⟨q0, q1⟩, q2, q3⟩ := X1.out.below b1
  obtain ⟨⟨r0, r1⟩, r2, r3⟩ := X2.out.below b1
  have hg2 : w.heap.size + 3 ≤ g := by have := HZ.out; omega
  have HO := hide ho
  have HB := hide (below_next B0.out b1)
  clear ho b1 X1 X2 B0 hg
  go_wp2_with fail
  have hk : Kept (fun b => b = w.heap.size + 1 ∨ b = w.heap.size + 1 + 1) w1 (((w1.setCell ⟨w.heap.size + 1 + 1, 1, none⟩ (.slice (some ⟨g, 0, none⟩) zs.length zs.length)).setCell ⟨w.heap.size + 1, 0, none⟩ (.int .i64 d)).setCell ⟨w.heap.size + 1, 1, none⟩ (.slice (some ⟨g, 0, none⟩) zs.length zs.length)) :=
    Kept.setCell (p := ⟨w.heap.size + 1, 1, none⟩) (Kept.setCell (p := ⟨w.heap.size + 1, 0, none⟩) (Kept.setCell (p := ⟨w.heap.size + 1 + 1, 1, none⟩) (Kept.refl _ _) (fun _ => .inr rfl) _) (fun _ => .inl rfl) _) (fun _ => .inl rfl) _
  refine bodyPost_ret (v := .agg #[.int .i64 d, .slice (some ⟨g, 0, none⟩) zs.length zs.length]) (by simp [results, Tryz.results69, go_sem, q0, q1]) rfl ⟨g, rfl, by omega, ?_, HB.out.trans (hk.below HB.out.size (fun k hk hS => by omega))⟩
  exact ownsRow_mono (ownsRow_kept HO.out hk (fun b hb hS => by simp only [Value.ownBlock, Option.some.injEq] at hb; omega)) (by have := HZ.out; omega)

set_option maxHeartbeats 400000 in
theorem eqChunk_same (d : Int) (a b : Option Addr) (ca cb : Nat) (zs : List Int) (w : World) (ha : Reads .u8 w a zs) (hb : Reads .u8 w b zs) (hl : zs.length ≤ 1048576) :
    Calls Tryz.prog 71 #[.agg #[.int .i64 d, .slice a zs.length ca], .agg #[.int .i64 d, .slice b zs.length cb]] w fun e w' => e = .returned (.bool true) ∧ Below w.heap.size w w' := by
  have HA := hide ha
  have HB := hide hb
  clear ha hb
  have B1 := hide (below_next (below_alloc w (.cells #[.int .i64 d, .slice a zs.length ca] 108)) (below_alloc _ (.cells #[.int .i64 d, .slice b zs.length cb] 108)))
  go_enter Tryz.func71, Tryz.ntmps71
  go_wp2_with fail
  refine (eqByteS_b a b ca cb zs _ (HA.out.below B1.out) (HB.out.below B1.out) hl).mono ?_
  rintro e w1 ⟨rfl, b1⟩
  have B2 := hide (below_next B1.out b1)
  clear b1 B1
  go_wp2_with fail
  go_ret
  exact ⟨rfl, B2.out⟩

set_option maxHeartbeats 800000 in
theorem eqChunkS_same (a b : Option Addr) (ca cb n : Nat) (D : Nat → Int) (P : Nat → List Int) (w : World) (ha : RdC w a D P n) (hb : RdC w b D P n) (hl : n ≤ 1048576) (hP : ∀ i, i < n → (P i).length ≤ 1048576) :
    Calls Tryz.prog 30 #[.slice a n ca, .slice b n cb] w fun e w' => e = .returned (.bool true) ∧ Below w.heap.size w w' := by
  have hne : ((n : Int) != (n : Int)) = false := by simp
  have HA := hide ha
  have HB := hide hb
  have HP := hide hP
  clear ha hb hP
  go_enter Tryz.func30, Tryz.ntmps30
  go_wp2
  go_loopw [5] (fun i wr => ∃ k : Nat, k ≤ n ∧ i = .int .i64 k ∧ Below w.heap.size w wr) (fun i _ => n - (intOf i).toNat)
  case atStart => exact ⟨0, Nat.zero_le _, rfl, Below.refl _ _⟩
  case round =>
    obtain ⟨k, hk, rfl, hbel⟩ := hrel
    have HW := hide hbel
    clear hbel
    by_cases hlt : k < n
    · obtain ⟨b1, o1, A1, C1, rfl, hb1, hc1⟩ := (HA.out.below HW.out) (by omega)
      obtain ⟨b2, o2, A2, C2, rfl, hb2, hc2⟩ := (HB.out.below HW.out) (by omega)
      obtain ⟨c1, e1, r1⟩ := hc1 k hlt
      obtain ⟨c2, e2, r2⟩ := hc2 k hlt
      have hp := HP.out k hlt
      generalize A1 k = a1 at e1 r1
      generalize A2 k = a2 at e2 r2
      generalize C1 k = d1 at e1
      generalize C2 k = d2 at e2
      generalize P k = xs at e1 r1 e2 r2 hp
      generalize D k = dd at c1 c2
      have R1 := hide r1
      have R2 := hide r2
      have f1 : ∀ u : InW (fun x => Below wr.heap.size wr x), u.val.cell? ⟨b1, o1 + k * 2, none⟩ = some (.int .i64 dd) := fun u => (u.ok.cell (p := ⟨b1, o1 + k * 2, none⟩) hb1).trans c1
      have f2 : ∀ u : InW (fun x => Below wr.heap.size wr x), u.val.cell? ⟨b1, o1 + k * 2 + 1, none⟩ = some (.slice a1 xs.length d1) := fun u => (u.ok.cell (p := ⟨b1, o1 + k * 2 + 1, none⟩) hb1).trans e1
      have f3 : ∀ u : InW (fun x => Below wr.heap.size wr x), u.val.cell? ⟨b2, o2 + k * 2, none⟩ = some (.int .i64 dd) := fun u => (u.ok.cell (p := ⟨b2, o2 + k * 2, none⟩) hb2).trans c2
      have f4 : ∀ u : InW (fun x => Below wr.heap.size wr x), u.val.cell? ⟨b2, o2 + k * 2 + 1, none⟩ = some (.slice a2 xs.length d2) := fun u => (u.ok.cell (p := ⟨b2, o2 + k * 2 + 1, none⟩) hb2).trans e2
      have hne2 : Nonempty (InW (fun x => Below wr.heap.size wr x)) := ⟨⟨wr, Below.refl _ _⟩⟩
      clear hc1 hc2 r1 r2 c1 c2 e1 e2
      go_wp2
      refine wp_region_inv (Inv := fun x => Below wr.heap.size wr x) (by kernel_rfl) (by kernel_rfl) (Below.refl _ _).drew ?_
      repeat (first | go_big_quiet_step ((go_at_call 71; exact calls_inv ((eqChunk_same _ _ _ _ _ xs _ (R1.out.below (InW.ok _)) (R2.out.below (InW.ok _)) hp).mono (fun e w' ⟨he, hb⟩ => ⟨he, below_next (InW.ok _) hb⟩)))) | quiet_step (fail))
      refine wpQuiet_nil ?_
      intro _ hw'
      obtain ⟨u, hw''⟩ := hw'
      subst hw''
      have B7 := hide (below_next HW.out u.ok)
      clear f1 f2 f3 f4 R1 R2
      go_wp2
      go_roundw
      case rel => exact ⟨k + 1, by omega, by go_num, B7.out⟩
      case measure => simp [intOf]; omega
    · go_wp2
      go_ret
      exact ⟨rfl, HW.out⟩

set_option maxHeartbeats 400000 in
theorem szByteS_fits (a : Option Addr) (n c : Nat) (left : Int) (w : World) (h0 : left ≤ 1048576) (hn : (n : Int) ≤ left) :
    Calls Tryz.prog 109 #[.slice a n c, .int .i64 left] w fun e w' => e = .returned (.int .i64 (left - n)) ∧ w' = w := by
  have hb : ¬ (left - (n : Int)) < 0 := by omega
  go_enter Tryz.func109, Tryz.ntmps109
  go_wp2
  go_ret
  exact ⟨rfl, rfl⟩
set_option maxHeartbeats 400000 in
theorem szByteS_not (a : Option Addr) (n c : Nat) (left : Int) (w : World) (h0 : 0 ≤ left) (hl : left ≤ 1048576) (hm : (n : Int) ≤ 9223372036854775807) (hn : left < (n : Int)) :
    Calls Tryz.prog 109 #[.slice a n c, .int .i64 left] w fun e w' => e = .returned (.int .i64 (-1)) ∧ w' = w := by
  have hb : (left - (n : Int)) < 0 := by omega
  go_enter Tryz.func109, Tryz.ntmps109
  go_wp2
  go_ret
  exact ⟨rfl, rfl⟩

set_option maxHeartbeats 400000 in
theorem szChunk_fits (d : Int) (a : Option Addr) (n c : Nat) (left : Int) (w : World) (h0 : left ≤ 1048576) (hn : (n : Int) ≤ left) :
    Calls Tryz.prog 67 #[.agg #[.int .i64 d, .slice a n c], .int .i64 left] w fun e w' => e = .returned (.int .i64 (left - n)) ∧ Below w.heap.size w w' := by
  have hb : ¬ (left - (n : Int)) < 0 := by omega
  go_enter Tryz.func67, Tryz.ntmps67
  go_wp2_with fail
  refine (szByteS_fits a n c left _ h0 hn).mono ?_
  rintro e w1 ⟨rfl, rfl⟩
  go_wp2_with fail
  go_ret
  exact ⟨rfl, below_alloc _ _⟩
set_option maxHeartbeats 400000 in
theorem szChunk_not (d : Int) (a : Option Addr) (n c : Nat) (left : Int) (w : World) (h0 : 0 ≤ left) (hl : left ≤ 1048576) (hm : (n : Int) ≤ 9223372036854775807) (hn : left < (n : Int)) :
    Calls Tryz.prog 67 #[.agg #[.int .i64 d, .slice a n c], .int .i64 left] w fun e w' => e = .returned (.int .i64 (-1)) ∧ Below w.heap.size w w' := by
  go_enter Tryz.func67, Tryz.ntmps67
  go_wp2_with fail
  refine (szByteS_not a n c left _ h0 hl hm hn).mono ?_
  rintro e w1 ⟨rfl, rfl⟩
  go_wp2_with fail
  go_ret
  exact ⟨rfl, below_alloc _ _⟩

set_option maxHeartbeats 800000 in
theorem szChunkS_fits (a : Option Addr) (c n : Nat) (D : Nat → Int) (P : Nat → List Int) (left : Int) (w : World) (h : RdC w a D P n) (h0 : left ≤ 1048576) (hn : (n : Int) + (ahead P n : Int) ≤ left) :
    Calls Tryz.prog 25 #[.slice a n c, .int .i64 left] w fun e w' => e = .returned (.int .i64 (left - n - ahead P n)) ∧ Below w.heap.size w w' := by
  have hb : ¬ (left - (n : Int)) < 0 := by omega
  have HA := hide h
  clear h
  go_enter Tryz.func25, Tryz.ntmps25
  go_wp2
  go_loopw [1, 5] (fun q i wr => ∃ k : Nat, k ≤ n ∧ i = .int .i64 k ∧ q = .int .i64 (left - n - ahead P k) ∧ Below w.heap.size w wr) (fun _ i _ => n - (intOf i).toNat)
  case atStart => exact ⟨0, Nat.zero_le _, rfl, by simp [ahead], Below.refl _ _⟩
  case round =>
    obtain ⟨k, hk, rfl, rfl, hbel⟩ := hrel
    have HW := hide hbel
    clear hbel
    by_cases hlt : k < n
    · obtain ⟨b1, o1, A1, C1, rfl, hb1, hc1⟩ := (HA.out.below HW.out) (by omega)
      obtain ⟨c1, e1, r1⟩ := hc1 k hlt
      have hle := ahead_le P (i := k + 1) (j := n) (by omega)
      simp only [ahead] at hle
      have hs : ahead P (k + 1) = ahead P k + (P k).length := rfl
      have HSu := hide hs
      clear hs
      generalize A1 k = a1 at e1 r1
      generalize C1 k = d1 at e1
      generalize (P k).length = pl at *
      generalize D k = dd at c1
      have hb2 : ¬ (left - (n : Int) - (ahead P k : Int) - (pl : Int)) < 0 := by omega
      clear hc1 r1
      go_wp2_with (go_at_call 67; refine (szChunk_fits dd a1 pl d1 _ _ (by omega) (by omega)).mono ?_; rintro e w1 ⟨rfl, b1'⟩; have HB1 := hide b1'; clear b1')
      go_roundw
      case rel => exact ⟨k + 1, by omega, by go_num, by rw [HSu.out]; go_num, below_next HW.out HB1.out⟩
      case measure => simp [intOf]; omega
    · have hke : k = n := by omega
      subst hke
      go_wp2
      go_ret
      exact ⟨rfl, HW.out⟩

set_option maxHeartbeats 800000 in
theorem szChunkS_not (a : Option Addr) (c n : Nat) (D : Nat → Int) (P : Nat → List Int) (left : Int) (w : World) (h : RdC w a D P n) (h00 : 0 ≤ left) (h0 : left ≤ 1048576) (hm : (n : Int) ≤ 9223372036854775807) (hmP : ∀ i, i < n → ((P i).length : Int) ≤ 9223372036854775807) (hn : left < (n : Int) + (ahead P n : Int)) :
    Calls Tryz.prog 25 #[.slice a n c, .int .i64 left] w fun e w' => e = .returned (.int .i64 (-1)) ∧ Below w.heap.size w w' := by
  by_cases hsm : left < (n : Int)
  · have hb : (left - (n : Int)) < 0 := by omega
    clear h
    go_enter Tryz.func25, Tryz.ntmps25
    go_wp2
    go_ret
    exact ⟨rfl, Below.refl _ _⟩
  · have hb : ¬ (left - (n : Int)) < 0 := by omega
    have HA := hide h
    have HM := hide hmP
    clear h hmP
    go_enter Tryz.func25, Tryz.ntmps25
    go_wp2
    go_loopw [1, 5] (fun q i wr => ∃ k : Nat, k ≤ n ∧ i = .int .i64 k ∧ q = .int .i64 (left - n - ahead P k) ∧ (n : Int) + (ahead P k : Int) ≤ left ∧ Below w.heap.size w wr) (fun _ i _ => n - (intOf i).toNat)
    case atStart => exact ⟨0, Nat.zero_le _, rfl, by simp [ahead], by simp [ahead]; omega, Below.refl _ _⟩
    case round =>
      obtain ⟨k, hk, rfl, rfl, hfit, hbel⟩ := hrel
      have HW := hide hbel
      clear hbel
      have hlt : k < n := by
        rcases Nat.lt_or_ge k n with h1 | h1
        · exact h1
        · have : k = n := by omega
          subst this
          omega
      obtain ⟨b1, o1, A1, C1, rfl, hb1, hc1⟩ := (HA.out.below HW.out) (by omega)
      obtain ⟨c1, e1, r1⟩ := hc1 k hlt
      have hs : ahead P (k + 1) = ahead P k + (P k).length := rfl
      have hmk := HM.out k hlt
      have HSu := hide hs
      clear hs
      generalize A1 k = a1 at e1 r1
      generalize C1 k = d1 at e1
      generalize (P k).length = pl at *
      generalize D k = dd at c1
      clear hc1 r1
      by_cases hf : (n : Int) + (ahead P k : Int) + (pl : Int) ≤ left
      · have hb2 : ¬ (left - (n : Int) - (ahead P k : Int) - (pl : Int)) < 0 := by omega
        go_wp2_with (go_at_call 67; refine (szChunk_fits dd a1 pl d1 _ _ (by omega) (by omega)).mono ?_; rintro e w1 ⟨rfl, b1'⟩; have HB1 := hide b1'; clear b1')
        go_roundw
        case rel => exact ⟨k + 1, by omega, by go_num, by rw [HSu.out]; go_num, by rw [HSu.out]; omega, below_next HW.out HB1.out⟩
        case measure => simp [intOf]; omega
      · go_wp2_with (go_at_call 67; refine (szChunk_not dd a1 pl d1 _ _ (by omega) (by omega) (by omega) (by omega)).mono ?_; rintro e w1 ⟨rfl, b1'⟩; have HB1 := hide b1'; clear b1')
        go_ret
        exact ⟨rfl, below_next HW.out HB1.out⟩

def laid (j : Nat) (D : Nat → Int) (P : Nat → List Int) (A : Nat → Nat) (i : Nat) : List Value :=
  if i < j then [.int .i64 (D i), .slice (some ⟨A i, 0, none⟩) (P i).length (P i).length] else [.int .i64 0, .slice none 0 0]
theorem laid_length (j : Nat) (D : Nat → Int) (P : Nat → List Int) (A : Nat → Nat) (i : Nat) : (laid j D P A i).length = 2 := by
  unfold laid; split <;> rfl
theorem laid_zero (n : Nat) (D : Nat → Int) (P : Nat → List Int) (A : Nat → Nat) : (madeCells #[Value.int .i64 0, .slice none 0 0] (n * 2)).toList = flat n (laid 0 D P A) := by
  have hl := flat_length (n := n) (k := 2) (F := laid 0 D P A) (fun i _ => laid_length _ _ _ _ _)
  apply List.ext_getElem?
  intro p
  by_cases hp : p < n * 2
  · have e : p = p / 2 * 2 + p % 2 := by omega
    have h1 : p / 2 < n := by omega
    have h2 : p % 2 < 2 := by omega
    rw [e, flat_get (fun i _ => laid_length _ _ _ _ _) _ _ h1 h2]
    rw [← e]
    have hm : p % 2 = 0 ∨ p % 2 = 1 := by omega
    rcases hm with hm | hm <;> simp [madeCells, hp, hm, laid]
  · rw [List.getElem?_eq_none (by simp [madeCells]; omega), List.getElem?_eq_none (by omega)]

theorem laid_step {n k : Nat} {D : Nat → Int} {P : Nat → List Int} {A : Nat → Nat} {g : Nat} (hk : k < n) :
    ((flat n (laid k D P A)).set (k * 2) (.int .i64 (D k))).set (k * 2 + 1) (.slice (some ⟨g, 0, none⟩) (P k).length (P k).length) = flat n (laid (k + 1) D P (fun i => if i = k then g else A i)) := by
  have e := flat_set (n := n) (k := 2) (F := laid k D P A) (fun i _ => laid_length _ _ _ _ _) k 0 hk (by decide) (.int .i64 (D k))
  rw [Nat.add_zero] at e
  rw [e, flat_set (k := 2) (fun i _ => by by_cases h : i = k <;> simp [h, laid_length]) k 1 hk (by decide)]
  apply flat_congr
  intro i hi
  by_cases h : i = k
  · subst h
    simp [laid]
  · by_cases h2 : i < k
    · have h3 : i < k + 1 := by omega
      simp [h, laid, h2, h3]
    · have h3 : ¬ i < k + 1 := by omega
      simp [h, laid, h2, h3]

def ToC (B : Nat) (w : World) (v : Value) (D : Nat → Int) (P : Nat → List Int) (n k : Nat) : Prop :=
  ∃ A : Nat → Nat, w.ownsRow B 108 2 v n (flat n (laid k D P A)) ∧
    (∀ i, i < k → w.ownsRow B 5 1 (.slice (some ⟨A i, 0, none⟩) (P i).length (P i).length) (P i).length ((P i).map (Value.int .u8))) ∧
    ∀ i i', i < k → i' < k → A i = A i' → i = i'

theorem ToC.step {B : Nat} {w w1 : World} {G n k g : Nat} {D : Nat → Int} {P : Nat → List Int} (h : ToC B w (.slice (some ⟨G, 0, none⟩) n n) D P n k) (hk : k < n) (hB : B ≤ w.heap.size) (hbel : Below w.heap.size w w1)
    (hown : w1.ownsRow w.heap.size 5 1 (.slice (some ⟨g, 0, none⟩) (P k).length (P k).length) (P k).length ((P k).map (Value.int .u8))) (hg : w.heap.size ≤ g) :
    ToC B ((w1.setCell ⟨G, k * 2, none⟩ (.int .i64 (D k))).setCell ⟨G, k * 2 + 1, none⟩ (.slice (some ⟨g, 0, none⟩) (P k).length (P k).length)) (.slice (some ⟨G, 0, none⟩) n n) D P n (k + 1) := by
  obtain ⟨A, h1, h2, h3⟩ := h
  have hA : ∀ i, i < k → A i < w.heap.size := fun i hi => ((h2 i hi).lt (A i) rfl).2
  have k1 := ownsRow_below h1 hbel
  have hkp : Kept (fun b => b = G) w1 ((w1.setCell ⟨G, k * 2, none⟩ (.int .i64 (D k))).setCell ⟨G, k * 2 + 1, none⟩ (.slice (some ⟨g, 0, none⟩) (P k).length (P k).length)) := Kept.two _ _ _ _ _ _
  refine ⟨fun i => if i = k then g else A i, ?_, ?_, ?_⟩
  · have := ((k1.stored (k * 2) (.int .i64 (D k))).1.stored (k * 2 + 1) (.slice (some ⟨g, 0, none⟩) (P k).length (P k).length)).1
    rwa [laid_step hk] at this
  · intro i hi
    by_cases e : i = k
    · subst e
      simp only [if_true]
      exact ownsRow_kept (ownsRow_mono hown hB) hkp (fun b hb hS => ownsRow_apart k1 hown (by decide) (by subst hS; rfl) hb)
    · simp only [if_neg e]
      have k2 := ownsRow_below (h2 i (by omega)) hbel
      exact ownsRow_kept k2 hkp (fun b hb hS => ownsRow_apart k1 k2 (by decide) (by subst hS; rfl) hb)
  · intro i i' hi hi' he
    by_cases e : i = k
    · by_cases e' : i' = k
      · omega
      · simp only [if_pos e, if_neg e'] at he
        have := hA i' (by omega)
        omega
    · by_cases e' : i' = k
      · simp only [if_neg e, if_pos e'] at he
        have := hA i (by omega)
        omega
      · simp only [if_neg e, if_neg e'] at he
        exact h3 i i' (by omega) (by omega) he

theorem ToC.gc {B : Nat} {w : World} {v : Value} {D : Nat → Int} {P : Nat → List Int} {n : Nat} (h : ToC B w v D P n n) : GC B w.heap.size w v D P n := by
  obtain ⟨A, h1, h2, h3⟩ := h
  refine ⟨fun i => some ⟨A i, 0, none⟩, fun i => (P i).length, ?_, h2, ?_, ?_, fun b hb => (h1.lt b hb).2⟩
  · have e : flat n (chCells D P (fun i => some ⟨A i, 0, none⟩) (fun i => (P i).length)) = flat n (laid n D P A) := flat_congr (fun i hi => by simp [laid, chCells, hi])
    rw [e]; exact h1
  · intro i i' g hi hi' e1 e2
    simp only [Option.map_some, Option.some.injEq] at e1 e2
    exact h3 i i' hi hi' (by omega)
  · intro i g hi e
    simp only [Option.map_some, Option.some.injEq] at e
    have := ((h2 i hi).lt (A i) rfl).2
    omega

set_option maxHeartbeats 1600000 in
theorem toChunkS_any (a : Option Addr) (c n : Nat) (D : Nat → Int) (P : Nat → List Int) (w : World) (h : RdC w a D P n) (hn : n ≤ 1048576) (hP : ∀ i, i < n → (P i).length ≤ 1048576) :
    Calls Tryz.prog 28 #[.slice a n c] w fun e w' => ∃ G, e = .returned (.slice (some ⟨G, 0, none⟩) n n) ∧ w.heap.size ≤ G ∧ GC w.heap.size w'.heap.size w' (.slice (some ⟨G, 0, none⟩) n n) D P n ∧ Below w.heap.size w w' := by
  obtain ⟨i1, ki, kz0, kz1, kz2⟩ := info_parts Tryz.infoCh
  have HA := hide h
  have HP := hide hP
  clear h hP
  have hby : i1.bytes * n ≤ 281474976710656 := by rw [kz2]; omega
  have hml : n ≤ maxLen := by unfold maxLen; omega
  go_enter Tryz.func28, Tryz.ntmps28
  go_wp2_with (at_make; refine wpList_make_full _ rfl (.tmp 6) (.tmp 6) 25 rfl w.heap.size 108 i1 (.agg #[.int .i64 0, .slice none 0 0]) 2 Tryz.underlying25 ki kz0 kz1 .i64 .i64 _ _ n rfl rfl rfl rfl hby hml (Nat.le_refl _) ?_; intro w1 ho1 hg1; have HO1 := hide ho1; have HG1 := hide hg1; clear ho1 hg1)
  have hz : madeCells (Value.agg #[.int .i64 0, .slice none 0 0]).cells (n * 2) = madeCells #[.int .i64 0, .slice none 0 0] (n * 2) := rfl
  have T1 : Hid (ToC w.heap.size w1 (.slice (some ⟨w.heap.size, 0, none⟩) n n) D P n 0) := by
    refine ⟨fun _ => 0, ?_, fun i hi => absurd hi (by omega), fun i i' hi => absurd hi (by omega)⟩
    rw [← laid_zero n D P (fun _ => 0)]
    exact HO1.out
  have B1 : Hid (Below w.heap.size w w1) := (Below.refl _ _).grown HG1.out (Nat.le_refl _) (fun k hk => by simp at hk)
  clear hz HO1 HG1
  go_loopw [4] (fun i wr => ∃ k : Nat, k ≤ n ∧ i = .int .i64 k ∧ ToC w.heap.size wr (.slice (some ⟨w.heap.size, 0, none⟩) n n) D P n k ∧ Below w.heap.size w wr) (fun i _ => n - (intOf i).toNat)
  case atStart => exact ⟨0, Nat.zero_le _, rfl, T1.out, B1.out⟩
  case round =>
    obtain ⟨k, hk, rfl, hT, hbel⟩ := hrel
    have HT := hide hT
    have HW := hide hbel
    have hsz := hbel.size
    clear hT hbel T1 B1
    by_cases hlt : k < n
    · obtain ⟨b1, o1, A1, C1, rfl, hb1, hc1⟩ := (HA.out.below HW.out) (by omega)
      obtain ⟨c1, e1, r1⟩ := hc1 k hlt
      have hp := HP.out k hlt
      generalize A1 k = a1 at e1 r1
      generalize C1 k = d1 at e1
      have R1 := hide r1
      clear hc1 r1
      have HST := hide (fun (w1 : World) (g : Nat) => HT.out.step (w1 := w1) (g := g) hlt hsz)
      obtain ⟨AA, q1, q2, q3⟩ := HT.out
      have hf := flat_get (n := n) (k := 2) (F := laid k D P AA) (fun i _ => laid_length _ _ _ _ _) k
      have Q1 := hide q1
      have hz0 : (flat n (laid k D P AA))[k * 2]? = some (.int .i64 0) := by
        have := hf 0 hlt (by decide)
        rw [Nat.add_zero] at this
        rw [this]; simp [laid]
      have hz1 : (flat n (laid k D P AA))[k * 2 + 1]? = some (.slice none 0 0) := by
        rw [hf 1 hlt (by decide)]; simp [laid]
      have Z0 := hide hz0
      have Z1 := hide hz1
      clear hf q1 q2 q3 hz0 hz1
      generalize hxs : P k = xs at *
      generalize hdd : D k = dd at *
      have HX := hide (And.intro hxs hdd)
      clear hxs hdd
      go_wp2_with (go_at_call 69; refine (toChunk_any dd a1 d1 xs _ R1.out hp).mono ?_; rintro e w2 ⟨g, rfl, hg, ho, hb⟩; have k1 := ownsRow_below Q1.out hb; have m0 : w2.cell? ⟨w.heap.size, k * 2, none⟩ = some (.int .i64 0) := (k1.cellAt (k * 2) (by omega)).trans Z0.out; have m1 : w2.cell? ⟨w.heap.size, k * 2 + 1, none⟩ = some (.slice none 0 0) := (k1.cellAt (k * 2 + 1) (by omega)).trans Z1.out; have m2 := k1.frozenAt (k * 2); have m3 := k1.frozenAt (k * 2 + 1); have HO2 := hide ho; have HB2 := hide hb; clear ho hb k1)
      go_roundw
      case rel => exact ⟨k + 1, by omega, by go_num, HST.out w2 g HB2.out HO2.out hg, ((below_next HW.out HB2.out).setCell (Nat.le_refl _) _).setCell (Nat.le_refl _) _⟩
      case measure => simp [intOf]; omega
    · have hke : k = n := by omega
      subst hke
      go_wp2
      go_ret
      exact ⟨_, rfl, Nat.le_refl _, HT.out.gc, HW.out⟩

end Go.Proofs.YtejipahfodhmjaaGreat

namespace Go.Proofs.YtejipahfodhmjaaGreat
open Go.RowKit
set_option linter.unusedVariables false

theorem chCells_length (D : Nat → Int) (P : Nat → List Int) (A : Nat → Option Addr) (C : Nat → Nat) (i : Nat) : (chCells D P A C i).length = 2 := rfl

theorem reads_owned {w : World} {B : Nat} {e : TypeId} {k : IntKind} {a : Option Addr} {n c : Nat} {zs : List Int} (h : w.ownsRow B e 1 (.slice a n c) n (zs.map (Value.int k))) (hn : n = zs.length) : Reads k w a zs := by
  intro hz
  have h0 : 0 < n := by rw [hn]; exact List.length_pos_iff.2 hz
  obtain ⟨g, cap, hv, hg, hgl, hc, hf⟩ := ownsRow_ints h hn h0
  simp only [Value.slice.injEq, true_and] at hv
  exact ⟨g, 0, hv.1, hgl, fun i hi => by rw [Nat.zero_add]; exact hc i (by omega)⟩

theorem GC.rd {B T : Nat} {w : World} {a : Option Addr} {c : Nat} {D : Nat → Int} {P : Nat → List Int} {n : Nat} (h : GC B T w (.slice a n c) D P n) : RdC w a D P n := by
  intro hn
  obtain ⟨A, C, h1, h2, h3, h4, h5⟩ := h
  rcases h1.2 with ⟨_, h0⟩ | ⟨g, cap, cur, h', hb, hh, hnc, hcm, hcs, htake⟩
  · omega
  · simp only [Value.slice.injEq, true_and] at h'
    obtain ⟨rfl, rfl⟩ := h'
    have hf := fun i r hi hr => flat_get (n := n) (k := 2) (F := chCells D P A C) (fun i _ => chCells_length _ _ _ _ _) i r hi hr
    refine ⟨g, 0, A, C, rfl, (h1.lt g rfl).2, fun i hi => ⟨?_, ?_, reads_owned (h2 i hi) rfl⟩⟩
    · rw [Nat.zero_add, h1.cellAt (i * 2) (by omega)]
      have := hf i 0 hi (by decide)
      rw [Nat.add_zero] at this
      rw [this]; rfl
    · rw [Nat.zero_add, h1.cellAt (i * 2 + 1) (by omega), hf i 1 hi (by decide)]; rfl

end Go.Proofs.YtejipahfodhmjaaGreat

namespace Go.Proofs.YtejipahfodhmjaaGreat
open Go.RowKit
set_option linter.unusedVariables false

def oneFault (d : Int) (zs : List Int) : Int :=
  if 0 ≤ d ∧ d ≤ 4294967295 then (if 1 ≤ zs.length ∧ zs.length ≤ 8 then (if digest zs = d then 0 else 6) else 2) else 3
def atFault (D : Nat → Int) (P : Nat → List Int) (i : Nat) : Option Int :=
  if oneFault (D i) (P i) ≠ 0 then some (oneFault (D i) (P i)) else if 0 < i ∧ D i ≤ D (i - 1) then some 1 else none
def firstBad (f : Nat → Option Int) : Nat → Nat → Int
  | _, 0 => 0
  | i, m + 1 => match f i with | some c => c | none => firstBad f (i + 1) m
def fault (D : Nat → Int) (P : Nat → List Int) (n : Nat) : Int := if 40 < n then 2 else firstBad (atFault D P) 0 n

theorem firstBad_hit {f : Nat → Option Int} {k n : Nat} {c : Int} (hk : k < n) (h : f k = some c) : firstBad f k (n - k) = c := by
  obtain ⟨m, hm⟩ : ∃ m, n - k = m + 1 := ⟨n - k - 1, by omega⟩
  rw [hm]; simp [firstBad, h]
theorem firstBad_miss {f : Nat → Option Int} {k n : Nat} (hk : k < n) (h : f k = none) : firstBad f k (n - k) = firstBad f (k + 1) (n - (k + 1)) := by
  obtain ⟨m, hm⟩ : ∃ m, n - k = m + 1 := ⟨n - k - 1, by omega⟩
  have : n - (k + 1) = m := by omega
  rw [hm, this]; simp [firstBad, h]
theorem firstBad_end {f : Nat → Option Int} {k n : Nat} (hk : n ≤ k) : firstBad f k (n - k) = 0 := by
  have : n - k = 0 := by omega
  rw [this]; rfl
theorem firstBad_none {f : Nat → Option Int} (hf : ∀ j c, f j = some c → c ≠ 0) : ∀ (m i : Nat), firstBad f i m = 0 → ∀ j, i ≤ j → j < i + m → f j = none
  | 0, i, _, j, h1, h2 => by omega
  | m + 1, i, h, j, h1, h2 => by
    simp only [firstBad] at h
    cases hi : f i with
    | some c => rw [hi] at h; exact absurd h (hf i c hi)
    | none =>
      rw [hi] at h
      by_cases e : j = i
      · subst e; exact hi
      · exact firstBad_none hf m (i + 1) h j (by omega) (by omega)

theorem atFault_ne (D : Nat → Int) (P : Nat → List Int) (j : Nat) (c : Int) (h : atFault D P j = some c) : c ≠ 0 := by
  unfold atFault at h
  split at h
  · rename_i h1; cases h; exact h1
  · split at h
    · cases h; decide
    · cases h
theorem oneFault_zero {d : Int} {zs : List Int} (h : oneFault d zs = 0) : (0 ≤ d ∧ d ≤ 4294967295) ∧ (1 ≤ zs.length ∧ zs.length ≤ 8) ∧ digest zs = d := by
  unfold oneFault at h
  split at h
  · rename_i h1
    split at h
    · rename_i h2
      split at h
      · rename_i h3; exact ⟨h1, h2, h3⟩
      · omega
    · omega
  · omega
structure RightC (D : Nat → Int) (P : Nat → List Int) (n : Nat) : Prop where
  many : n ≤ 40
  range : ∀ i, i < n → 0 ≤ D i ∧ D i ≤ 4294967295
  len : ∀ i, i < n → 1 ≤ (P i).length ∧ (P i).length ≤ 8
  sum : ∀ i, i < n → digest (P i) = D i
  up : ∀ i, i + 1 < n → D i < D (i + 1)
theorem fault_zero {D : Nat → Int} {P : Nat → List Int} {n : Nat} (h : fault D P n = 0) : RightC D P n := by
  unfold fault at h
  split at h
  · omega
  · rename_i hn
    have hz := firstBad_none (atFault_ne D P) n 0 h
    have hone : ∀ i, i < n → oneFault (D i) (P i) = 0 ∧ ¬ (0 < i ∧ D i ≤ D (i - 1)) := fun i hi => by
      have := hz i (Nat.zero_le _) (by omega)
      unfold atFault at this
      split at this
      · cases this
      · rename_i h1
        split at this
        · cases this
        · rename_i h2; exact ⟨Decidable.not_not.1 h1, h2⟩
    refine ⟨by omega, fun i hi => (oneFault_zero (hone i hi).1).1, fun i hi => (oneFault_zero (hone i hi).1).2.1, fun i hi => (oneFault_zero (hone i hi).1).2.2, fun i hi => ?_⟩
    have := (hone (i + 1) hi).2
    simp only [Nat.add_sub_cancel] at this
    omega
theorem firstBad_zero {f : Nat → Option Int} : ∀ (m i : Nat), (∀ j, i ≤ j → j < i + m → f j = none) → firstBad f i m = 0
  | 0, _, _ => rfl
  | m + 1, i, h => by
    simp only [firstBad, h i (Nat.le_refl _) (by omega)]
    exact firstBad_zero m (i + 1) (fun j h1 h2 => h j (by omega) (by omega))
end Go.Proofs.YtejipahfodhmjaaGreat

