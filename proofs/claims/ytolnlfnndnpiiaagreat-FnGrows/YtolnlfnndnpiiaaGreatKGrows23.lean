/-
  Texts put together: OvrH OvrJ MntC AppAt OvrK.
-/
import Derived.Test.YtolnlfnndnpiiaaGreatKGrows22
import Derived.Test.YtolnlfnndnpiiaaGreatKGrows21
import Derived.Test.YtolnlfnndnpiiaaGreatKGrows8
import Derived.Test.YtolnlfnndnpiiaaGreatKGrows9
import Derived.Test.YtolnlfnndnpiiaaGreatKGrows11
import Derived.Test.YtolnlfnndnpiiaaGreatKGrows1
import Derived.Maps.AppendAt
import Derived.Test.YtolnlfnndnpiiaaGreatKGrows10
namespace Go.Proofs.YtolnlfnndnpiiaaGreat
open Go.RowKit Go.Maps
set_option linter.unusedVariables false
attribute [local go_sem ↓] Go.wp_at_zero Go.wp_at_succ

theorem over_is_two {es : List En} {ups : List Bs} (h : overN es ups = 2) : ∃ u ∈ ups, rankE es u = 2 := by
  unfold overN at h
  split at h
  · rename_i h2
    obtain ⟨u, hu, hr⟩ := List.any_eq_true.1 h2
    exact ⟨u, hu, of_decide_eq_true hr⟩
  · split at h <;> omega
theorem rank_is_two {es : List En} {u : Bs} (h : rankE es u = 2) : ∃ d, findE es u = some d ∧ (d.kind = 3 ∨ d.kind = 1) := by
  unfold rankE at h
  cases hf : findE es u with
  | none => rw [hf] at h; simp at h
  | some d =>
    rw [hf] at h
    refine ⟨d, rfl, ?_⟩
    by_cases hk : d.kind = 3 ∨ d.kind = 1
    · exact hk
    · simp only [hk, if_false] at h
      split at h <;> omega
theorem over_there {es : List En} (h : Right es) {p : Bs} (hp : faultP p = 0) {e : En} (he : findE es p = some e) : overN es (above p) ≠ 2 := by
  intro h2
  obtain ⟨u, hu, hr⟩ := over_is_two h2
  obtain ⟨d, hd, hk⟩ := rank_is_two hr
  have hb : isBelow p u = true := by simpa [isBelow] using hu
  rw [isBelow_good hp] at hb
  obtain ⟨hpu, hbl⟩ := of_decide_eq_true hb
  obtain ⟨hem, rfl⟩ := find_mem he
  obtain ⟨d', hd', hpd, hk'⟩ := (right_fit.1 h).1.up hpu hem hbl
  have h3 := rise_find h.rise hd'
  rw [hpd, hd] at h3
  cases h3
  simp only [dirK, decide_eq_true_eq] at hk'
  omega
theorem up_over {es : List En} (h : Right es) (p : Bs) : ((above p).any fun u => (findE es u).any fun e => !decide (e.kind = 2)) = decide (overN es (above p) ≠ 0) := by
  rw [Bool.eq_iff_iff, decide_eq_true_iff, over_zero, List.any_eq_true]
  constructor
  · rintro ⟨u, hu, hr⟩
    have : hideAt es u = true := hr
    rw [rank_hide h] at this
    exact ⟨u, hu, of_decide_eq_true this⟩
  · rintro ⟨u, hu, hr⟩
    exact ⟨u, hu, by have : hideAt es u = true := by rw [rank_hide h]; exact decide_eq_true hr
                     exact this⟩
theorem seeL_at {ls : List (List En)} {m : Nat} {es : List En} (h : ls[m]? = some es) (q : Bs) : seeL ls m q = findE es q := by simp [seeL, h]
theorem seen_up {ls : List (List En)} {m : Nat} {es : List En} (h : ls[m]? = some es) (hR : Right es) {p : Bs} (hn : findE es p = none) (ho : overN es (above p) ≠ 0) : seenG (seeL ls) p (m + 1) = none := by
  refine seen_hid (by rw [seeL_at h]; exact hn) ?_
  have := up_over hR p
  rw [decide_eq_true ho] at this
  rw [← this]
  simp only [seeL_at h]
theorem seen_on {ls : List (List En)} {m : Nat} {es : List En} (h : ls[m]? = some es) (hR : Right es) {p : Bs} (hn : findE es p = none) (ho : overN es (above p) = 0) : seenG (seeL ls) p (m + 1) = seenG (seeL ls) p m := by
  refine seen_down (by rw [seeL_at h]; exact hn) ?_
  have := up_over hR p
  rw [decide_eq_false (by omega)] at this
  rw [← this]
  simp only [seeL_at h]

set_option maxRecDepth 100000 in
set_option maxHeartbeats 6400000 in
theorem l8Place_any (a : Option Addr) (c n : Nat) (ls : List (List En)) (p : Bs) (w : World) (h : RdL w a ls) (hn : n = ls.length) (h4 : ls.length ≤ 4) (hR : ∀ es ∈ ls, Right es) (hp : faultP p = 0) (hpl : p.length ≤ 1048576) :
    Calls Tryz.prog 214 #[.slice a n c, .string (str p)] w fun r w' => r = .returned (.int .i64 (placeI (seenL ls p))) ∧ Below w.heap.size w w' := by
  subst hn
  have HR := hide h
  have HRi := hide hR
  have HV0 := hide (show seenL ls p = seenG (seeL ls) p ls.length from seen_over h4)
  have hw1 : IntKind.i64.wrap ((ls.length : Int) - 1) = (ls.length : Int) - 1 := by simp [IntKind.wrap, IntKind.signed, IntKind.bits]; omega
  clear h hR
  generalize hV : seenL ls p = V at *
  clear hV
  go_enter Tryz.func214, Tryz.ntmps214
  go_wp2_with fail
  go_loopw [5] (fun i wr => ∃ k : Nat, k ≤ ls.length ∧ i = .int .i64 ((k : Int) - 1) ∧ Hid (V = seenG (seeL ls) p k) ∧ Hid (Below w.heap.size w wr)) (fun i _ => (intOf i + 1).toNat)
  case atStart => exact ⟨ls.length, Nat.le_refl _, rfl, HV0, hide (Below.refl _ _)⟩
  case round =>
    obtain ⟨k, hk, hi, HV, HW⟩ := hrel
    cases k with
    | zero =>
      rw [show ((0 : Nat) : Int) - 1 = -1 from rfl] at hi
      subst hi
      have HN := hide (show V = none from HV.out)
      go_wp2_with fail
      go_ret
      exact ⟨by rw [HN.out]; rfl, HW.out⟩
    | succ m =>
      rw [show ((m + 1 : Nat) : Int) - 1 = (m : Int) from by omega] at hi
      subst hi
      have hm0 : (0 : Int) ≤ (m : Int) := by omega
      have hm1 : (m : Int) < (ls.length : Int) := by omega
      have hm2 : IntKind.i64.wrap ((m : Int) - 1) = (m : Int) - 1 := by simp [IntKind.wrap, IntKind.signed, IntKind.bits]; omega
      obtain ⟨b, off, es, x, cc, rfl, hb, he, c0, hr⟩ := (HR.out.below HW.out).at (k := m) (by omega)
      have hRi := HRi.out es (List.mem_of_getElem? he)
      have hel := hRi.len
      have HX := hide he
      have HRI := hide hRi
      have HOV := hide (l8Over_any x cc es.length es p wr hr rfl (by omega) hp hpl)
      have HAT : Hid (∀ w', Below wr.heap.size wr w' → Calls Tryz.prog 163 #[.slice x es.length cc, .string (str p)] w' fun r w2 => r = .returned (.int .i64 (placeI (atE es p))) ∧ w2 = w') := hide (fun w' hb' => l4At_any x cc es.length es p w' (hr.below hb') rfl (by omega))
      have HRE := hide hr
      have KC : Hid (∀ w', Below wr.heap.size wr w' → w'.cell? ⟨b, off + m, none⟩ = some (.slice x es.length cc)) := hide (fun w' hb' => (hb'.cell (p := ⟨b, off + m, none⟩) hb).trans c0)
      clear he hRi hr
      cases ha : atE es p with
      | none =>
        have hf := find_at_none ha
        rw [ha] at HAT
        have e1 : placeI none = -1 := rfl
        rw [e1] at HAT
        clear ha e1
        rcases over_cases es (above p) with ho | ho | ho
        · have HN := hide (HV.out.trans (seen_on HX.out HRI.out hf ho))
          rw [ho] at HOV
          clear hf ho
          go_wp2_with fail
          refine HOV.out.mono ?_
          rintro r w1 ⟨rfl, hb1⟩
          have B1 := hide hb1
          have c1 := KC.out w1 hb1
          clear hb1 c0
          go_wp2_with fail
          refine (HAT.out w1 B1.out).mono ?_
          rintro r w2 ⟨rfl, rfl⟩
          go_wp2_with fail
          go_roundw
          case rel => exact ⟨m, by omega, rfl, HN, hide (below_next HW.out B1.out)⟩
          case measure => simp [intOf]
        · have HN := hide (HV.out.trans (seen_up HX.out HRI.out hf (by omega)))
          rw [ho] at HOV
          clear hf ho
          go_wp2_with fail
          refine HOV.out.mono ?_
          rintro r w1 ⟨rfl, hb1⟩
          have B1 := hide hb1
          have c1 := KC.out w1 hb1
          clear hb1 c0
          go_wp2_with fail
          refine (HAT.out w1 B1.out).mono ?_
          rintro r w2 ⟨rfl, rfl⟩
          go_wp2_with fail
          go_ret
          exact ⟨by rw [HN.out]; rfl, below_next HW.out B1.out⟩
        · have HN := hide (HV.out.trans (seen_up HX.out HRI.out hf (by omega)))
          rw [ho] at HOV
          clear hf ho
          go_wp2_with fail
          refine HOV.out.mono ?_
          rintro r w1 ⟨rfl, hb1⟩
          have B1 := hide hb1
          clear hb1 c0
          go_wp2_with fail
          go_ret
          exact ⟨by rw [HN.out]; rfl, below_next HW.out B1.out⟩
      | some q =>
        obtain ⟨e, he, hf⟩ := find_at_some ha
        have hq := atE_lt ha
        have hno := over_there HRI.out hp hf
        have HHit := hide (HV.out.trans (seen_hit (by rw [seeL_at HX.out]; exact hf)))
        rw [ha] at HAT
        have e1 : placeI (some q) = (q : Int) := rfl
        rw [e1] at HAT
        have hq0 : (0 : Int) ≤ (q : Int) := by omega
        have hq1 : (q : Int) < (es.length : Int) := by omega
        obtain ⟨bb, off2, e', x', cc', rfl, hb2, he', z0, z1, z2, z3, hr'⟩ := HRE.out.at hq
        have : e' = e := Option.some.inj (he'.symm.trans he)
        subst this
        have KZ : Hid (∀ w', Below wr.heap.size wr w' → w'.cell? ⟨bb, off2 + q * 4 + 1, none⟩ = some (.int .i64 e'.kind)) := hide (fun w' hb' => (hb'.cell (p := ⟨bb, off2 + q * 4 + 1, none⟩) hb2).trans z1)
        have h2 : (overN es (above p) == 2) = false := by simpa using hno
        generalize overN es (above p) = O at *
        clear ha e1 he he' hr' z0 z1 z2 z3 hno hf
        by_cases h3 : e'.kind = 3
        · rw [if_pos h3] at HHit
          have h3' : (e'.kind == 3) = true := by simpa using h3
          clear h3
          go_wp2_with fail
          refine HOV.out.mono ?_
          rintro r w1 ⟨rfl, hb1⟩
          have B1 := hide hb1
          have c1 := KC.out w1 hb1
          have z1 := KZ.out w1 hb1
          clear hb1 c0
          go_wp2_with fail
          refine (HAT.out w1 B1.out).mono ?_
          rintro r w2 ⟨rfl, rfl⟩
          go_wp2_with fail
          go_ret
          exact ⟨by rw [HHit.out]; rfl, below_next HW.out B1.out⟩
        · rw [if_neg h3] at HHit
          have h3' : (e'.kind == 3) = false := by simpa using h3
          clear h3
          go_wp2_with fail
          refine HOV.out.mono ?_
          rintro r w1 ⟨rfl, hb1⟩
          have B1 := hide hb1
          have c1 := KC.out w1 hb1
          have z1 := KZ.out w1 hb1
          clear hb1 c0
          go_wp2_with fail
          refine (HAT.out w1 B1.out).mono ?_
          rintro r w2 ⟨rfl, rfl⟩
          go_wp2_with fail
          go_ret
          exact ⟨by rw [HHit.out]; rfl, below_next HW.out B1.out⟩
set_option maxRecDepth 100000 in
set_option maxHeartbeats 1600000 in
theorem l8In_any (a : Option Addr) (c n : Nat) (ps : List Bs) (p : Bs) (w : World) (h : ReadsS w a ps) (hn : n = ps.length) (hl : ps.length ≤ 1048576) :
    Calls Tryz.prog 218 #[.slice a n c, .string (str p)] w fun r w' => r = .returned (.bool (decide (p ∈ ps))) ∧ w' = w := by
  subst hn
  have HR := hide h
  clear h
  go_enter Tryz.func218, Tryz.ntmps218
  go_wp2_with fail
  go_loopw [5] (fun i wr => ∃ k : Nat, k ≤ ps.length ∧ i = .int .i64 k ∧ wr = w ∧ Hid (p ∉ ps.take k)) (fun i _ => ps.length - (intOf i).toNat)
  case atStart => exact ⟨0, Nat.zero_le _, rfl, rfl, hide (by simp)⟩
  case round =>
    obtain ⟨k, hk, rfl, rfl, HN⟩ := hrel
    by_cases hlt : k < ps.length
    · obtain ⟨b, off, q, rfl, hb, he, c0⟩ := HR.out.at hlt
      have hk0 : (0 : Int) ≤ (k : Int) := by omega
      have hk1 : (k : Int) < (ps.length : Int) := by omega
      by_cases hq : q = p
      · have hq2 := str_yes hq
        have HT := hide (show decide (p ∈ ps) = true from decide_eq_true (by rw [← hq]; exact List.mem_of_getElem? he))
        clear hq he
        go_wp2_with fail
        go_ret
        exact ⟨by rw [HT.out]; rfl, rfl⟩
      · have hq2 := str_no hq
        have HT := hide (show p ∉ ps.take (k + 1) from by
          rw [take_at he]
          intro hm
          rcases List.mem_append.1 hm with hm | hm
          · exact HN.out hm
          · simp at hm; exact hq hm.symm)
        clear hq he
        go_wp2_with fail
        go_roundw
        case rel => exact ⟨k + 1, by omega, by go_num, (by first | rfl | trivial), HT⟩
        case measure => simp [intOf]; omega
    · have HT := hide (show decide (p ∈ ps) = false from decide_eq_false (by have := HN.out; rwa [List.take_of_length_le (by omega)] at this))
      go_wp2_with fail
      go_ret
      exact ⟨by rw [HT.out]; rfl, rfl⟩
end Go.Proofs.YtolnlfnndnpiiaaGreat

namespace Go.Proofs.YtolnlfnndnpiiaaGreat
set_option linter.unusedVariables false

theorem snocInd {α : Type} {motive : List α → Prop} (nil : motive []) (snoc : ∀ (l : List α) (x : α), motive l → motive (l ++ [x])) (l : List α) : motive l := by
  have h : ∀ r : List α, motive r.reverse := by
    intro r
    induction r with
    | nil => exact nil
    | cons x r ih => rw [List.reverse_cons]; exact snoc _ _ ih
  have h2 := h l.reverse
  rwa [List.reverse_reverse] at h2
theorem path_last {p : Bs} (h : faultP p = 0) : p = parentP p ++ 47 :: lastP p := by
  obtain ⟨ns, hN, hp, hc, -⟩ := faultP_zero h
  have h1 : lastP p = lastN ns := by unfold lastP; rw [hc]
  have h2 := last_split hN.1
  have h3 : parentP p = joinB ns.dropLast := by
    unfold parentP
    rw [hc]
    by_cases hl : 1 < ns.length
    · rw [parent_take hl, List.dropLast_eq_take]
    · have h4 : aboveN ns = [] := List.eq_nil_of_length_eq_zero (by rw [aboveN_length]; omega)
      have h5 : ns.dropLast = [] := List.eq_nil_of_length_eq_zero (by rw [List.length_dropLast]; omega)
      rw [h4, h5]; rfl
  rw [h1, h3]
  have h6 : joinB ns = joinB ns.dropLast ++ 47 :: lastN ns := by
    conv => lhs; rw [h2]
    rw [join_append]; simp [joinB]
  rw [← h6]; exact hp
theorem bl_pre : ∀ (q a b : Bs), Op.bytesLess (q ++ a) (q ++ b) = Op.bytesLess a b
  | [], a, b => rfl
  | c :: q, a, b => by
    have := bl_pre q a b
    simp [Op.bytesLess, this]
def cpB (q x : Bs) : Bs := q ++ 47 :: x
theorem bl_kid (q a b : Bs) : Op.bytesLess (cpB q a) (cpB q b) = Op.bytesLess a b := by
  unfold cpB
  rw [bl_pre]
  simp [Op.bytesLess]
theorem kid_path {e : En} {q : Bs} (h : faultP e.path = 0) (hq : parentP e.path = q) : e.path = cpB q (lastP e.path) := by
  have := path_last h
  rw [hq] at this
  exact this
def RiseS (ns : List Bs) : Prop := ns.Pairwise fun x y => Op.bytesLess x y = true
def mkE (n : Bs) : En := ⟨n, 0, 0, []⟩
theorem riseS_mk {ns : List Bs} : Rise (ns.map mkE) ↔ RiseS ns := by
  unfold Rise RiseS
  rw [List.pairwise_map]
  exact Iff.rfl
theorem map_mk_path (ns : List Bs) : (ns.map mkE).map En.path = ns := by
  rw [List.map_map]
  conv => rhs; rw [← List.map_id ns]
  exact List.map_congr_left fun _ _ => rfl
theorem riseS_ext {a b : List Bs} (ha : RiseS a) (hb : RiseS b) (h : ∀ x, x ∈ a ↔ x ∈ b) : a = b := by
  have h1 : a.map mkE = b.map mkE := by
    have hra := riseS_mk.2 ha
    have hrb := riseS_mk.2 hb
    refine rise_ext hra hrb (fun q => ?_)
    by_cases hq : q ∈ a
    · have e1 := rise_find hra (List.mem_map.2 ⟨q, hq, rfl⟩)
      have e2 := rise_find hrb (List.mem_map.2 ⟨q, (h q).1 hq, rfl⟩)
      exact e1.trans e2.symm
    · have hq2 : q ∉ b := fun hb => hq ((h q).2 hb)
      rw [find_none (fun x hx e => ?_), find_none (fun x hx e => ?_)]
      · obtain ⟨y, hy, rfl⟩ := List.mem_map.1 hx
        exact hq2 (by rw [← e]; exact hy)
      · obtain ⟨y, hy, rfl⟩ := List.mem_map.1 hx
        exact hq (by rw [← e]; exact hy)
  rw [← map_mk_path a, ← map_mk_path b, h1]
theorem putS_mk (ps : List Bs) (p : Bs) : (putS ps p).map mkE = putAt (ps.map mkE) (mkE p) := by
  have h1 : lowN (ps.map mkE) p = lowS ps p := by
    unfold lowN lowS
    rw [List.takeWhile_map, List.length_map]
    rfl
  unfold putS putAt
  rw [show (mkE p).path = p from rfl, h1]
  simp
theorem mem_putS {ps : List Bs} {p x : Bs} : x ∈ putS ps p ↔ x = p ∨ x ∈ ps := by
  have h1 : mkE x ∈ (putS ps p).map mkE ↔ x ∈ putS ps p := by
    constructor
    · intro h
      obtain ⟨y, hy, he⟩ := List.mem_map.1 h
      have : y = x := congrArg En.path he
      rw [← this]; exact hy
    · exact fun h => List.mem_map.2 ⟨x, h, rfl⟩
  rw [← h1, putS_mk, mem_putAt]
  constructor
  · rintro (h | h)
    · exact .inl (congrArg En.path h)
    · obtain ⟨y, hy, he⟩ := List.mem_map.1 h
      have : y = x := congrArg En.path he
      exact .inr (by rw [← this]; exact hy)
  · rintro (h | h)
    · exact .inl (by rw [h])
    · exact .inr (List.mem_map.2 ⟨x, h, rfl⟩)
theorem riseS_put {ps : List Bs} {p : Bs} (h : RiseS ps) (hn : p ∉ ps) : RiseS (putS ps p) := by
  rw [← riseS_mk, putS_mk]
  refine rise_putAt (riseS_mk.2 h) (fun x hx e => ?_)
  obtain ⟨y, hy, rfl⟩ := List.mem_map.1 hx
  have : y = p := e
  exact hn (by rw [← this]; exact hy)
theorem names_rise {T : List En} (h : Fit T) (q : Bs) : RiseS (namesE T q) := by
  unfold RiseS namesE
  rw [List.pairwise_map]
  have h1 : (kidsE T q).Pairwise (fun x y => Op.bytesLess x.path y.path = true) := List.Pairwise.filter _ h.rise
  refine h1.imp_of_mem (fun {a b} ha hb hab => ?_)
  have ha' := List.mem_filter.1 ha
  have hb' := List.mem_filter.1 hb
  rw [kid_path (h.path ha'.1) (of_decide_eq_true ha'.2), kid_path (h.path hb'.1) (of_decide_eq_true hb'.2), bl_kid] at hab
  exact hab

def stepN (s : List Bs × List Bs) (e : En) : List Bs × List Bs :=
  if lastP e.path ∈ s.1 then s else (s.1 ++ [lastP e.path], if e.kind = 3 then s.2 else putS s.2 (lastP e.path))
def runN (D : List En) : List Bs × List Bs := D.foldl stepN ([], [])
theorem runN_snoc (D : List En) (e : En) : runN (D ++ [e]) = stepN (runN D) e := by simp [runN]
theorem runN_says (D : List En) : (∀ x, x ∈ (runN D).1 ↔ ∃ e ∈ D, lastP e.path = x) ∧ (∀ x, x ∈ (runN D).2 ↔ (D.find? fun e => decide (lastP e.path = x)).any (fun e => !decide (e.kind = 3)) = true) ∧ RiseS (runN D).2 ∧ (runN D).1.length ≤ D.length ∧ (runN D).2.length ≤ D.length := by
  induction D using snocInd with
  | nil => exact ⟨fun x => by simp [runN], fun x => by simp [runN], List.Pairwise.nil, Nat.le_refl _, Nat.le_refl _⟩
  | snoc D e ih =>
    obtain ⟨h1, h2, h3, h4, h5⟩ := ih
    rw [runN_snoc]
    unfold stepN
    by_cases hm : lastP e.path ∈ (runN D).1
    · rw [if_pos hm]
      obtain ⟨d, hd, hdl⟩ := (h1 _).1 hm
      refine ⟨fun x => ?_, fun x => ?_, h3, by simp; omega, by simp; omega⟩
      · rw [h1]
        constructor
        · rintro ⟨y, hy, hl⟩; exact ⟨y, by simp [hy], hl⟩
        · rintro ⟨y, hy, hl⟩
          rcases List.mem_append.1 hy with hy | hy
          · exact ⟨y, hy, hl⟩
          · simp at hy; subst hy; exact ⟨d, hd, by rw [hdl, hl]⟩
      · rw [h2, List.find?_append]
        by_cases hx : lastP e.path = x
        · have : (D.find? fun e => decide (lastP e.path = x)).isSome = true := by
            rw [List.find?_isSome]
            exact ⟨d, hd, decide_eq_true (by rw [hdl, hx])⟩
          obtain ⟨y, hy⟩ := Option.isSome_iff_exists.1 this
          rw [hy]; simp
        · have h7 : [e].find? (fun e => decide (lastP e.path = x)) = none := by simp [hx]
          rw [h7]; simp
    · rw [if_neg hm]
      have hno : D.find? (fun y => decide (lastP y.path = lastP e.path)) = none := by
        rw [List.find?_eq_none]
        intro y hy hq
        exact hm ((h1 _).2 ⟨y, hy, of_decide_eq_true hq⟩)
      have hno2 : lastP e.path ∉ (runN D).2 := fun hq => by
        rw [h2, hno] at hq; simp at hq
      refine ⟨fun x => ?_, fun x => ?_, ?_, by simp; omega, ?_⟩
      · rw [List.mem_append, h1]
        constructor
        · rintro (⟨y, hy, hl⟩ | hx)
          · exact ⟨y, by simp [hy], hl⟩
          · simp at hx; exact ⟨e, by simp, hx.symm⟩
        · rintro ⟨y, hy, hl⟩
          rcases List.mem_append.1 hy with hy | hy
          · exact .inl ⟨y, hy, hl⟩
          · simp at hy; subst hy; exact .inr (by simp [hl])
      · rw [List.find?_append]
        by_cases hx : lastP e.path = x
        · subst hx
          rw [hno]
          by_cases h3k : e.kind = 3
          · simp only [h3k, if_true]
            have : ¬ lastP e.path ∈ (runN D).2 := hno2
            simp [this, h3k]
          · simp only [h3k, if_false]
            rw [mem_putS]
            simp [h3k]
        · have h7 : [e].find? (fun e => decide (lastP e.path = x)) = none := by simp [hx]
          rw [h7, Option.or_none]
          by_cases h3k : e.kind = 3
          · simp only [h3k, if_true]; exact h2 x
          · simp only [h3k, if_false]
            rw [mem_putS, h2]
            constructor
            · rintro (h8 | h8)
              · exact absurd h8.symm hx
              · exact h8
            · exact .inr
      · by_cases h3k : e.kind = 3
        · simp only [h3k, if_true]; exact h3
        · simp only [h3k, if_false]; exact riseS_put h3 hno2
      · by_cases h3k : e.kind = 3
        · simp only [h3k, if_true]; simp; omega
        · simp only [h3k, if_false]; rw [putS_len]; simp; omega

def hidQ (es : List En) (q : Bs) : Int := if q = [] then 0 else hidN es q
def comeD (ls : List (List En)) (q : Bs) : Nat → List En
  | 0 => []
  | n + 1 => match ls[n]? with
    | none => []
    | some es => if hidQ es q = 2 then [] else kidsE es q ++ (if hidQ es q = 1 then [] else comeD ls q n)
theorem come_two {ls : List (List En)} {q : Bs} {n : Nat} {es : List En} (h : ls[n]? = some es) (h2 : hidQ es q = 2) : comeD ls q (n + 1) = [] := by simp [comeD, h, h2]
theorem come_one {ls : List (List En)} {q : Bs} {n : Nat} {es : List En} (h : ls[n]? = some es) (h1 : hidQ es q = 1) : comeD ls q (n + 1) = kidsE es q := by simp [comeD, h, h1]
theorem come_on {ls : List (List En)} {q : Bs} {n : Nat} {es : List En} (h : ls[n]? = some es) (h2 : hidQ es q ≠ 2) (h1 : hidQ es q ≠ 1) : comeD ls q (n + 1) = kidsE es q ++ comeD ls q n := by simp [comeD, h, h1, h2]
theorem come_len {ls : List (List En)} {q : Bs} (h : ∀ es ∈ ls, Right es) : ∀ n, n ≤ ls.length → (comeD ls q n).length ≤ 12 * n
  | 0, _ => by simp [comeD]
  | n + 1, hn => by
    have ih := come_len (q := q) h n (by omega)
    obtain ⟨es, he⟩ : ∃ es, ls[n]? = some es := ⟨_, List.getElem?_eq_getElem (by omega)⟩
    have h12 := (h es (List.mem_of_getElem? he)).len
    have hk : (kidsE es q).length ≤ es.length := List.length_filter_le _ _
    by_cases h2 : hidQ es q = 2
    · rw [come_two he h2]; simp
    · by_cases h1 : hidQ es q = 1
      · rw [come_one he h1]; omega
      · rw [come_on he h2 h1, List.length_append]; omega
theorem come_mem {ls : List (List En)} {q : Bs} : ∀ {n : Nat} {e : En}, e ∈ comeD ls q n → parentP e.path = q ∧ ∃ es ∈ ls, e ∈ es
  | 0, e, h => by simp [comeD] at h
  | n + 1, e, h => by
    cases he : ls[n]? with
    | none => simp [comeD, he] at h
    | some es =>
      have hk : ∀ {x}, x ∈ kidsE es q → parentP x.path = q ∧ ∃ es ∈ ls, x ∈ es := fun hx => ⟨of_decide_eq_true (List.mem_filter.1 hx).2, es, List.mem_of_getElem? he, (List.mem_filter.1 hx).1⟩
      by_cases h2 : hidQ es q = 2
      · rw [come_two he h2] at h; simp at h
      · by_cases h1 : hidQ es q = 1
        · rw [come_one he h1] at h; exact hk h
        · rw [come_on he h2 h1] at h
          rcases List.mem_append.1 h with h | h
          · exact hk h
          · exact come_mem h
theorem above_kid {c q : Bs} (hc : faultP c = 0) (hq : parentP c = q) : above c = if q = [] then [] else above q ++ [q] := by
  obtain ⟨ns, hN, hp, hcu, -⟩ := faultP_zero hc
  rw [above_good hc, hcu]
  have hpar : q = (aboveN ns).getLastD [] := by rw [← hq]; unfold parentP; rw [hcu]
  by_cases h0 : q = []
  · rw [if_pos h0]
    have := parentP_nil.1 (hq.trans h0)
    rw [hcu] at this
    exact this
  · rw [if_neg h0]
    have hl : 1 < ns.length := by
      refine Nat.lt_of_not_le (fun hle => h0 ?_)
      have h4 : aboveN ns = [] := List.eq_nil_of_length_eq_zero (by rw [aboveN_length]; omega)
      rw [hpar, h4]; rfl
    rw [parent_take hl] at hpar
    have hT : Names (ns.take (ns.length - 1)) := names_take hN (by omega)
    have hqf : faultP q = 0 := by rw [hpar]; exact faultP_of hT
    rw [above_good hqf]
    have hcq : cutB q.tail = ns.take (ns.length - 1) := by rw [hpar]; exact cut_of hT
    rw [hcq]
    unfold aboveN
    rw [List.length_take]
    obtain ⟨m, hm⟩ : ∃ m, ns.length = m + 2 := ⟨ns.length - 2, by omega⟩
    have e1 : min (ns.length - 1) ns.length - 1 = m := by omega
    have e2 : ns.length - 1 = m + 1 := by omega
    rw [e1, e2, List.range_succ, List.map_append]
    congr 1
    · refine List.map_congr_left fun k hk => ?_
      have := List.mem_range.1 hk
      rw [List.take_take, Nat.min_eq_left (by omega)]
    · simp [hpar, e2]
theorem over_append (es : List En) (ups : List Bs) (q : Bs) : overN es (ups ++ [q]) = if overN es ups = 2 ∨ rankE es q = 2 then 2 else if overN es ups = 1 ∨ rankE es q = 1 then 1 else 0 := by
  unfold overN
  simp only [List.any_append, List.any_cons, List.any_nil, Bool.or_false]
  by_cases h1 : ups.any (fun u => decide (rankE es u = 2)) = true
  · simp [h1]
  · by_cases h2 : ups.any (fun u => decide (rankE es u = 1)) = true
    · rcases rank_cases es q with h | h | h <;> simp [h1, h2, h]
    · rcases rank_cases es q with h | h | h <;> simp [h1, h2, h]
theorem over_kid {es : List En} {c q : Bs} (hc : faultP c = 0) (hq : parentP c = q) : overN es (above c) = hidQ es q := by
  rw [above_kid hc hq]
  unfold hidQ
  by_cases h0 : q = []
  · rw [if_pos h0, if_pos h0]; simp [overN]
  · rw [if_neg h0, if_neg h0, over_append]; rfl
theorem come_seen {ls : List (List En)} (hR : ∀ es ∈ ls, Right es) {c q : Bs} (hc : faultP c = 0) (hq : parentP c = q) :
    ∀ n, n ≤ ls.length → ((comeD ls q n).find? fun e => decide (lastP e.path = lastP c)).any (fun e => !decide (e.kind = 3)) = (seenG (seeL ls) c n).isSome
  | 0, _ => by simp [comeD, seenG]
  | n + 1, hn => by
    have ih := come_seen hR hc hq n (by omega)
    obtain ⟨es, he⟩ : ∃ es, ls[n]? = some es := ⟨_, List.getElem?_eq_getElem (by omega)⟩
    have hRi := hR es (List.mem_of_getElem? he)
    have hF := (right_fit.1 hRi).1
    have hcp : c = cpB q (lastP c) := by have := path_last hc; rw [hq] at this; exact this
    have hkid : ∀ x ∈ kidsE es q, lastP x.path = lastP c → x.path = c := fun x hx hl => by
      have hx' := List.mem_filter.1 hx
      have := kid_path (hF.path hx'.1) (of_decide_eq_true hx'.2)
      rw [hl, ← hcp] at this
      exact this
    cases hf : findE es c with
    | none =>
      have hno : (kidsE es q).find? (fun e => decide (lastP e.path = lastP c)) = none := by
        rw [List.find?_eq_none]
        intro x hx hl
        have h1 := hkid x hx (of_decide_eq_true hl)
        have h2 := rise_find hRi.rise (List.mem_filter.1 hx).1
        rw [h1, hf] at h2
        cases h2
      by_cases h2 : hidQ es q = 2
      · rw [come_two he h2, seen_up he hRi hf (by rw [over_kid hc hq, h2]; decide)]; rfl
      · by_cases h1 : hidQ es q = 1
        · rw [come_one he h1, hno, seen_up he hRi hf (by rw [over_kid hc hq, h1]; decide)]; rfl
        · have h0 : overN es (above c) = 0 := by
            have := over_kid (es := es) hc hq
            rcases over_cases es (above c) with h | h | h
            · exact h
            · rw [h] at this; exact absurd this.symm h1
            · rw [h] at this; exact absurd this.symm h2
          rw [come_on he h2 h1, List.find?_append, hno, Option.none_or, seen_on he hRi hf h0]
          exact ih
    | some e =>
      obtain ⟨hem, hep⟩ := find_mem hf
      have h2 : hidQ es q ≠ 2 := by rw [← over_kid hc hq]; exact over_there hRi hc hf
      have hek : e ∈ kidsE es q := List.mem_filter.2 ⟨hem, decide_eq_true (by rw [hep]; exact hq)⟩
      have hfi : (kidsE es q).find? (fun x => decide (lastP x.path = lastP c)) = some e := by
        have : ((kidsE es q).find? (fun x => decide (lastP x.path = lastP c))).isSome = true := by
          rw [List.find?_isSome]; exact ⟨e, hek, decide_eq_true (by rw [hep])⟩
        obtain ⟨y, hy⟩ := Option.isSome_iff_exists.1 this
        have hy1 := List.mem_of_find?_eq_some hy
        have hy4 := List.find?_some hy
        have hy2 := hkid y hy1 (by simpa using hy4)
        have hy3 := rise_find hRi.rise (List.mem_filter.1 hy1).1
        rw [hy2, hf] at hy3
        rw [hy, ← hy3]
      have hpre : ∃ r, comeD ls q (n + 1) = kidsE es q ++ r := by
        by_cases h1 : hidQ es q = 1
        · exact ⟨[], by rw [come_one he h1, List.append_nil]⟩
        · exact ⟨_, come_on he h2 h1⟩
      obtain ⟨r, hr⟩ := hpre
      rw [hr, List.find?_append, hfi, seen_hit (by rw [seeL_at he]; exact hf)]
      by_cases h3 : e.kind = 3 <;> simp [h3]
theorem come_names {ls : List (List En)} (hR : ∀ es ∈ ls, Right es) (h4 : ls.length ≤ 4) (q : Bs) : (runN (comeD ls q ls.length)).2 = namesE (allE ls) q := by
  obtain ⟨-, h2, h3, -⟩ := runN_says (comeD ls q ls.length)
  have hF := rights_fit hR
  have hfa := all_fit hF
  refine riseS_ext h3 (names_rise hfa.fit q) (fun x => ?_)
  have key : ∀ c, faultP c = 0 → parentP c = q → lastP c = x → (x ∈ (runN (comeD ls q ls.length)).2 ↔ (findE (allE ls) c).isSome = true) := fun c hc hq hx => by
    rw [h2, ← hx, come_seen hR hc hq ls.length (Nat.le_refl _), all_find hF h4 hc]
    have e1 : seenG (seeL ls) c ls.length = seenL ls c := (seen_over h4).symm
    rw [e1]
    unfold sawE
    cases hs : seenL ls c with
    | none => simp
    | some k =>
      obtain ⟨-, e, he, -⟩ := seen_some (show seenG (seeL ls) c 4 = some k from hs)
      simp [he]
  constructor
  · intro hx
    have hx' := (h2 x).1 hx
    cases hf : (comeD ls q ls.length).find? fun e => decide (lastP e.path = x) with
    | none => rw [hf] at hx'; simp at hx'
    | some e =>
      have hem := List.mem_of_find?_eq_some hf
      have hel0 := List.find?_some hf
      have hel : lastP e.path = x := by simpa using hel0
      obtain ⟨hpq, es, hes, hee⟩ := come_mem hem
      have hpf := (hF es hes).path hee
      obtain ⟨y, hy⟩ := Option.isSome_iff_exists.1 ((key e.path hpf hpq hel).1 hx)
      obtain ⟨hym, hyp⟩ := find_mem hy
      exact List.mem_map.2 ⟨y, List.mem_filter.2 ⟨hym, decide_eq_true (by rw [hyp]; exact hpq)⟩, by rw [hyp]; exact hel⟩
  · intro hx
    obtain ⟨y, hy, hyl⟩ := List.mem_map.1 hx
    obtain ⟨hym, hyp⟩ := List.mem_filter.1 hy
    exact (key y.path (hfa.fit.path hym) (of_decide_eq_true hyp) hyl).2 (by rw [rise_find hfa.fit.rise hym]; rfl)
end Go.Proofs.YtolnlfnndnpiiaaGreat

namespace Go.Proofs.YtolnlfnndnpiiaaGreat
open Go.RowKit Go.Maps
set_option linter.unusedVariables false
attribute [local go_sem ↓] Go.wp_at_zero Go.wp_at_succ

def dirQ (q : Bs) : En := ⟨q, 2, 0, []⟩
def needsU (U : List En) (e : En) : Bool := !decide (parentP e.path = []) && (findE U (parentP e.path)).isNone
def filR : Nat → List En → En → Int × List En
  | 0, U, e => (putCodeP U e, putListP U e)
  | n + 1, U, e => if needsU U e = true then (if (filR n U (dirQ (parentP e.path))).1 = 0 then (putCodeP (filR n U (dirQ (parentP e.path))).2 e, putListP (filR n U (dirQ (parentP e.path))).2 e) else filR n U (dirQ (parentP e.path))) else (putCodeP U e, putListP U e)
theorem filR_none {n : Nat} {U : List En} {e : En} (h : needsU U e = false) : filR n U e = (putCodeP U e, putListP U e) := by
  cases n <;> simp [filR, h]
theorem filR_put {n : Nat} {U : List En} {e : En} (h : needsU U e = true) (h0 : (filR n U (dirQ (parentP e.path))).1 = 0) : filR (n + 1) U e = (putCodeP (filR n U (dirQ (parentP e.path))).2 e, putListP (filR n U (dirQ (parentP e.path))).2 e) := by simp [filR, h, h0]
theorem filR_bad {n : Nat} {U : List En} {e : En} (h : needsU U e = true) (h0 : (filR n U (dirQ (parentP e.path))).1 ≠ 0) : filR (n + 1) U e = filR n U (dirQ (parentP e.path)) := by simp [filR, h, h0]
theorem filR_zero : ∀ {n : Nat} {U : List En} {e : En}, (filR n U e).1 = 0 → Right (filR n U e).2 ∧ SmallE (filR n U e).2
  | 0, U, e, h => by
    have h1 := putP_zero (show putCodeP U e = 0 from h)
    have h2 : (filR 0 U e).2 = putE U e := by show putListP U e = _; rw [putListP, if_pos (show putCodeP U e = 0 from h)]
    rw [h2]
    exact ⟨h1.2.2.2.2, right_small h1.2.2.2.2⟩
  | n + 1, U, e, h => by
    have key : ∀ {L : List En}, putCodeP L e = 0 → Right (putListP L e) ∧ SmallE (putListP L e) := fun {L} hL => by
      have h1 := putP_zero hL
      rw [putListP, if_pos hL]
      exact ⟨h1.2.2.2.2, right_small h1.2.2.2.2⟩
    cases hn : needsU U e
    · rw [filR_none hn] at h ⊢
      exact key h
    · by_cases h0 : (filR n U (dirQ (parentP e.path))).1 = 0
      · rw [filR_put hn h0] at h ⊢
        exact key h
      · rw [filR_bad hn h0] at h
        exact absurd h h0

theorem parN {e : En} {n : Nat} (hp : faultP e.path = 0) (h0 : parentP e.path ≠ []) (hn : (above e.path).length = n + 1) : (above (parentP e.path)).length = n := by
  have h1 := above_kid hp rfl
  rw [if_neg h0] at h1
  rw [h1, List.length_append] at hn
  simpa using hn
theorem parU_none {e : En} (hp : faultP e.path = 0) (hn : (above e.path).length = 0) : parentP e.path = [] := by
  by_cases h0 : parentP e.path = []
  · exact h0
  · have h1 := above_kid hp rfl
    rw [if_neg h0] at h1
    rw [h1] at hn
    simp at hn
end Go.Proofs.YtolnlfnndnpiiaaGreat

namespace Go.Proofs.YtolnlfnndnpiiaaGreat
open Go.RowKit Go.Maps
set_option linter.unusedVariables false

theorem wpList_append_one_at {P : Program} {wr : World} {news : Array Value} {ops : Array Oper} {rest : List Oper} {o : Oper} {a : Act} {Q : Exit → Act → World → Prop} (hgd : o.guard = none) (s x : Operand) (t : TypeId)
    (ho : o.op = .call { callee := .builtin .append, args := #[s, x], argTypes := #[t, t] })
    (base : Nat) (e : TypeId) (i : TypeInfo) (z : Value) (size bytes : Nat) (ht : P.underlying t = some (.slice e)) (hi : P.info? e = some i) (hz : i.zero = some z)
    (hsize : i.size = size) (hby : i.bytes = bytes) (hzs : z.cells.size = size) (hsz : 0 < size)
    (v : Value) (n : Nat) (xs : List Value) (hs : a.eval s = v) (hown : wr.ownsRow base e size v n xs)
    (hx : a.eval x = .slice (some ⟨wr.heap.size, 0, none⟩) 1 1) (hl : news.size = size) (h1 : ∀ u ∈ news.toList, u.oneCell' = true)
    (h63 : n + 1 ≤ maxLen) (hbytes : (n + 1) * bytes ≤ 140737488355328) (hbase : base ≤ wr.heap.size)
    (h : ∀ v' w', w'.ownsRow base e size v' (n + 1) (xs ++ news.toList) → Kept (fun b => v.ownBlock = some b) wr w' → (v'.ownBlock = v.ownBlock ∨ ∃ g, v'.ownBlock = some g ∧ wr.heap.size ≤ g) → wpList P ops Q rest (a.put o.dst v') w') :
    wpList P ops Q (o :: rest) a (wr.alloc (.cells news e)) := by
  refine wpList_append_own_at _ hgd s x t ho base e i z size bytes ht hi hz hsize hby hzs hsz v n xs hs (hown.alloc _) ⟨wr.heap.size, 0, none⟩ 1 1 news.toList hx (by simp [hl]) ?_ h1 h63 hbytes (by simp; omega) ?_
  · intro j u hj
    have hadd : (⟨wr.heap.size, 0, none⟩ : Addr).add j = ⟨wr.heap.size, j, none⟩ := by unfold Addr.add; split <;> simp_all
    rw [hadd, cell_of_row _ wr.heap.size j news e (0, 0) (heap_alloc_new wr _)]
    simpa using hj
  · intro v' w' ho' hg _ hat
    refine h v' w' ho' ⟨hg.os, hg.tape, hg.output, Nat.le_trans (by simp) hg.size, fun k hk hn => ?_⟩ ?_
    · rw [hg.block k (by simp; omega) (fun e => hn e.symm)]
      exact Below.heap_alloc _ _ _ hk
    · rcases hat with hat | hat
      · exact .inl hat
      · exact .inr ⟨_, hat, by simp⟩
end Go.Proofs.YtolnlfnndnpiiaaGreat

namespace Go.Proofs.YtolnlfnndnpiiaaGreat
open Go.RowKit Go.Maps
set_option linter.unusedVariables false
attribute [local go_sem ↓] Go.wp_at_zero Go.wp_at_succ

set_option maxRecDepth 100000 in
set_option maxHeartbeats 800000 in
theorem l8Hides_top (a : Option Addr) (c n : Nat) (w : World) :
    Calls Tryz.prog 216 #[.slice a n c, .string (str [])] w fun r w' => r = .returned (.int .i64 0) ∧ w' = w := by
  have hs0 : ((str []).toList == []) = true := by rw [str_toList]; rfl
  go_enter Tryz.func216, Tryz.ntmps216
  go_wp2_with fail
  go_ret
  exact ⟨rfl, rfl⟩
theorem l8HidesQ_any (a : Option Addr) (c n : Nat) (es : List En) (q : Bs) (w : World) (h : RdE w a es) (hn : n = es.length) (hRi : Right es) (hq : q = [] ∨ faultP q = 0) (hql : q.length ≤ 1048576) :
    Calls Tryz.prog 216 #[.slice a n c, .string (str q)] w fun r w' => r = .returned (.int .i64 (hidQ es q)) ∧ Below w.heap.size w w' := by
  by_cases h0 : q = []
  · subst h0
    have e1 : hidQ es [] = 0 := by simp [hidQ]
    rw [e1]
    exact (l8Hides_top a c n w).mono (fun r w' ⟨h1, h2⟩ => ⟨h1, by rw [h2]; exact Below.refl _ _⟩)
  · have e1 : hidQ es q = hidN es q := by simp [hidQ, h0]
    rw [e1]
    exact l8Hides_any a c n es q w h hn (by have := hRi.len; omega) hRi (by rcases hq with hq | hq; exact absurd hq h0; exact hq) hql
theorem kids_in {es : List En} {q : Bs} {k : Nat} {e : En} (he : es[k]? = some e) (h : parentP e.path = q) : kidsE (es.take (k + 1)) q = kidsE (es.take k) q ++ [e] := by
  rw [take_at he]; simp [kidsE, h]
theorem kids_out {es : List En} {q : Bs} {k : Nat} {e : En} (he : es[k]? = some e) (h : parentP e.path ≠ q) : kidsE (es.take (k + 1)) q = kidsE (es.take k) q := by
  rw [take_at he]; simp [kidsE, h]
structure TwoN (B : Nat) (w : World) (ov sv : Value) (D : List En) : Prop where
  out : OwnS B w ov (runN D).2
  seen : OwnS B w sv (runN D).1
  apart : ∀ g, ov.ownBlock = some g → sv.ownBlock ≠ some g
theorem TwoN.below {B : Nat} {w w' : World} {ov sv : Value} {D : List En} (h : TwoN B w ov sv D) (hb : Below w.heap.size w w') : TwoN B w' ov sv D := ⟨h.out.below hb, h.seen.below hb, h.apart⟩
theorem TwoN.skip {B : Nat} {w : World} {ov sv : Value} {D : List En} {e : En} (h : TwoN B w ov sv D) (hm : lastP e.path ∈ (runN D).1) : TwoN B w ov sv (D ++ [e]) := by
  have : runN (D ++ [e]) = runN D := by rw [runN_snoc, stepN, if_pos hm]
  exact ⟨by rw [this]; exact h.out, by rw [this]; exact h.seen, h.apart⟩
theorem TwoN.lens {B : Nat} {w : World} {ov sv : Value} {D : List En} (h : TwoN B w ov sv D) : (runN D).1.length ≤ D.length ∧ (runN D).2.length ≤ D.length := ⟨(runN_says D).2.2.2.1, (runN_says D).2.2.2.2⟩

set_option maxRecDepth 100000 in
set_option maxHeartbeats 12800000 in
theorem l8Names_any (a : Option Addr) (c n : Nat) (ls : List (List En)) (q : Bs) (w : World) (h : RdL w a ls) (hn : n = ls.length) (h4 : ls.length ≤ 4) (hR : ∀ es ∈ ls, Right es) (hq : q = [] ∨ faultP q = 0) (hql : q.length ≤ 1048576) :
    Calls Tryz.prog 172 #[.slice a n c, .string (str q)] w fun r w' => ∃ av cv, r = .returned (.slice av (namesE (allE ls) q).length cv) ∧ OwnS w.heap.size w' (.slice av (namesE (allE ls) q).length cv) (namesE (allE ls) q) ∧ Below w.heap.size w w' := by
  subst hn
  obtain ⟨i1, ki, kz0, kz1, kz2⟩ := info_parts infoS
  have HR := hide h
  have HRi := hide hR
  have HQ := hide hq
  have HNM := hide (come_names hR h4 q)
  have HCL := hide (come_len (q := q) hR ls.length (Nat.le_refl _))
  have hw1 : IntKind.i64.wrap ((ls.length : Int) - 1) = (ls.length : Int) - 1 := by simp [IntKind.wrap, IntKind.signed, IntKind.bits]; omega
  have B0 := hide (below_next (below_alloc w (.cells #[] 9)) (below_alloc (w.alloc (.cells #[] 9)) (.cells #[] 9)))
  have T0 : Hid (TwoN w.heap.size ((w.alloc (.cells #[] 9)).alloc (.cells #[] 9)) (.slice (some ⟨w.heap.size, 0, none⟩) 0 0) (.slice (some ⟨w.heap.size + 1, 0, none⟩) 0 0) []) := hide ⟨ownsRow_below (made_none w) (below_alloc _ _), by have := made_none (w.alloc (.cells #[] 9)); rw [show (w.alloc (.cells #[] 9)).heap.size = w.heap.size + 1 by simp] at this; exact ownsRow_mono this (by omega), fun g h1 h2 => by simp [Value.ownBlock] at h1 h2; omega⟩
  clear h hR hq
  generalize hDD : comeD ls q ls.length = DD at *
  have HDD := hide hDD
  clear hDD
  go_enter Tryz.func172, Tryz.ntmps172
  go_wp2_with fail
  generalize (w.alloc (.cells #[] 9)).alloc (.cells #[] 9) = W0 at *
  go_loopw [5, 6, 7] (fun ov sv i wr => ∃ (k : Nat) (D : List En), k ≤ ls.length ∧ i = .int .i64 ((k : Int) - 1) ∧ Hid (D ++ comeD ls q k = DD) ∧ Hid (TwoN w.heap.size wr ov sv D) ∧ Hid (Below w.heap.size w wr)) (fun _ _ i _ => (intOf i + 1).toNat)
  case atStart => exact ⟨ls.length, [], Nat.le_refl _, rfl, hide (by rw [List.nil_append]; exact HDD.out), T0, B0⟩
  case round =>
    obtain ⟨k, D, hk, hi, HD, HT, HW⟩ := hrel
    have hcl := HCL.out
    cases k with
    | zero =>
      rw [show ((0 : Nat) : Int) - 1 = -1 from rfl] at hi
      subst hi
      have HE := hide (show D = DD from by have := HD.out; simpa [comeD] using this)
      obtain ⟨ov, oc, hov⟩ := HT.out.out.shape
      have HO : Hid (OwnS w.heap.size wr (.slice ov (runN D).2.length oc) (namesE (allE ls) q)) := hide (by have := HT.out.out; rw [hov] at this; rw [← HNM.out, ← HE.out]; exact this)
      have HL := hide (show (runN D).2.length = (namesE (allE ls) q).length by rw [← HNM.out, HE.out])
      subst hov
      clear hcl
      go_wp2_with fail
      go_ret
      exact ⟨ov, oc, by rw [HL.out]; rfl, by rw [← HL.out]; exact HO.out, HW.out⟩
    | succ m =>
      rw [show ((m + 1 : Nat) : Int) - 1 = (m : Int) from by omega] at hi
      subst hi
      have hm0 : (0 : Int) ≤ (m : Int) := by omega
      have hm1 : (m : Int) < (ls.length : Int) := by omega
      have hm2 : IntKind.i64.wrap ((m : Int) - 1) = (m : Int) - 1 := by simp [IntKind.wrap, IntKind.signed, IntKind.bits]; omega
      obtain ⟨b, off, es, x, cc, rfl, hb, he, c0, hr⟩ := HR.out.at (k := m) (by omega)
      have hRi := HRi.out es (List.mem_of_getElem? he)
      have hel := hRi.len
      have HX := hide he
      have HRI := hide hRi
      have HSM := hide (right_small hRi)
      have HHI := hide (l8HidesQ_any x cc es.length es q wr (hr.below HW.out) rfl hRi HQ.out hql)
      have HRE := hide hr
      have KC : Hid (∀ w', Below w.heap.size w w' → w'.cell? ⟨b, off + m, none⟩ = some (.slice x es.length cc)) := hide (fun w' hb' => (hb'.cell (p := ⟨b, off + m, none⟩) hb).trans c0)
      clear he hRi hr c0
      have c0 := KC.out _ HW.out
      by_cases h2 : hidQ es q = 2
      · rw [h2] at HHI
        have HE := hide (show D = DD from by have := HD.out; rw [come_two HX.out h2, List.append_nil] at this; exact this)
        obtain ⟨ov, oc, hov⟩ := HT.out.out.shape
        have HO : Hid (OwnS w.heap.size wr (.slice ov (runN D).2.length oc) (namesE (allE ls) q)) := hide (by have := HT.out.out; rw [hov] at this; rw [← HNM.out, ← HE.out]; exact this)
        have HL := hide (show (runN D).2.length = (namesE (allE ls) q).length by rw [← HNM.out, HE.out])
        subst hov
        clear hcl h2
        go_wp2_with fail
        refine HHI.out.mono ?_
        rintro r w1 ⟨rfl, hb1⟩
        have B1 := hide hb1
        clear hb1 c0
        go_wp2_with fail
        go_ret
        exact ⟨ov, oc, by rw [HL.out]; rfl, by rw [← HL.out]; exact HO.out.below B1.out, below_next HW.out B1.out⟩
      · have hn2 : (hidQ es q == 2) = false := by simpa using h2
        have HKD : Hid ((D ++ kidsE es q).length ≤ 12 * ls.length) := hide (by
          have := HD.out
          by_cases h1 : hidQ es q = 1
          · rw [come_one HX.out h1] at this; rw [this]; exact hcl
          · rw [come_on HX.out h2 h1, ← List.append_assoc] at this
            have h5 := congrArg List.length this
            rw [List.length_append] at h5
            omega)
        have HHq := hide (show (hidQ es q = 1 → D ++ kidsE es q = DD) ∧ (hidQ es q ≠ 1 → (D ++ kidsE es q) ++ comeD ls q m = DD) from ⟨fun h1 => by have := HD.out; rw [come_one HX.out h1] at this; exact this, fun h1 => by have := HD.out; rw [come_on HX.out h2 h1, ← List.append_assoc] at this; exact this⟩)
        generalize hidQ es q = HH at *
        clear h2 hcl
        go_wp2_with fail
        refine HHI.out.mono ?_
        rintro r w1 ⟨rfl, hb1⟩
        have B1 := hide (below_next HW.out hb1)
        have T1 := hide (HT.out.below hb1)
        clear hb1 c0 HT HHI HW
        go_wp2_with fail
        go_loopw [5, 6, 9] (fun ov sv i wx => ∃ j : Nat, j ≤ es.length ∧ i = .int .i64 j ∧ Hid (TwoN w.heap.size wx ov sv (D ++ kidsE (es.take j) q)) ∧ Hid (Below w.heap.size w wx)) (fun _ _ i _ => es.length - (intOf i).toNat)
        case atStart => exact ⟨0, Nat.zero_le _, rfl, hide (by simpa [kidsE] using T1.out), B1⟩
        case round =>
          obtain ⟨j, hj, rfl, HT, HW⟩ := hrel
          have c1 := KC.out _ HW.out
          obtain ⟨ov, oc, hov⟩ := HT.out.out.shape
          obtain ⟨sv, sc, hsv⟩ := HT.out.seen.shape
          subst hov
          subst hsv
          obtain ⟨LS, hLS⟩ : ∃ LS, LS = (runN (D ++ kidsE (es.take j) q)).1.length := ⟨_, rfl⟩
          obtain ⟨LO, hLO⟩ : ∃ LO, LO = (runN (D ++ kidsE (es.take j) q)).2.length := ⟨_, rfl⟩
          have hlens := HT.out.lens
          rw [← hLS, ← hLO] at HT hlens ⊢
          have HLS := hide hLS
          have HLO := hide hLO
          clear hLS hLO
          by_cases hlt : j < es.length
          · obtain ⟨bb, off2, e, xx, c2, hxe, hbb, he, y0, y1, y2, y3, hre⟩ := (HRE.out.below HW.out).at hlt
            subst hxe
            have hpf := entFault_zero (HRI.out.ent e (List.mem_of_getElem? he))
            have hpos := path_pos hpf
            have hsm := HSM.out e (List.mem_of_getElem? he)
            have HXe := hide he
            have hj0 : (0 : Int) ≤ (j : Int) := by omega
            have hj1 : (j : Int) < (es.length : Int) := by omega
            have HP := hide (show (aboveN (cutB (str e.path).data.toList.tail)).getLastD [] = parentP e.path from by rw [str_data]; rfl)
            have HLA := hide (show lastN (cutB (str e.path).data.toList.tail) = lastP e.path from by rw [str_data]; rfl)
            have BA := hide (below_alloc wr (.cells #[.string (str e.path), .int .i64 e.kind, .int .i64 e.size, .slice xx e.chunks.length c2] 50))
            have F0 := hide (Four.new wr (.string (str e.path)) (.int .i64 e.kind) (.int .i64 e.size) (.slice xx e.chunks.length c2) 50)
            have hkj : (D ++ kidsE (es.take j) q).length ≤ 48 := by
              have h5 := HKD.out
              have h6 : (kidsE (es.take j) q).length ≤ (kidsE es q).length := ((List.take_sublist j es).filter _).length_le
              rw [List.length_append] at h5 ⊢
              omega
            clear he hre hpf
            obtain ⟨t0, t1, t2, t3⟩ := F0.out
            go_wp2_with fail
            clear t0 t1 t2 t3 y0 y1 y2 y3 c1
            generalize wr.alloc (.cells #[.string (str e.path), .int .i64 e.kind, .int .i64 e.size, .slice xx e.chunks.length c2] 50) = WE at *
            refine (l3Last_any _ _ (by rw [str_size]; omega) (by rw [str_size]; omega)).mono ?_
            rintro r w2 ⟨rfl, hb2⟩
            rw [HLA.out]
            have F2 := hide (F0.out.below hb2)
            have BE2 := hide (below_next BA.out hb2)
            clear hb2
            have t0 := F2.out.1
            go_wp2_with fail
            clear t0
            refine (l3Parent_any _ _ (by rw [str_size]; omega) (by rw [str_size]; omega)).mono ?_
            rintro r w3 ⟨rfl, hb3⟩
            rw [HP.out]
            have F3 := hide (F2.out.below hb3)
            have BE3 := hide (below_next BE2.out hb3)
            have T3 := hide (HT.out.below BE3.out)
            have B3 := hide (below_next HW.out BE3.out)
            have hwz := B3.out.size
            have k3 := F3.out.2.1
            have k0 := F3.out.1
            clear hb3 F2 F0
            by_cases hqq : parentP e.path = q
            · have hs1 := str_yes hqq
              have HKI := hide (show D ++ kidsE (es.take (j + 1)) q = (D ++ kidsE (es.take j) q) ++ [e] from by rw [kids_in HXe.out hqq, List.append_assoc])
              clear hqq
              have HIN := hide (l8In_any sv sc LS (runN (D ++ kidsE (es.take j) q)).1 (lastP e.path) w3 (T3.out.seen.reads) HLS.out (by rw [← HLS.out]; omega))
              by_cases hmm : lastP e.path ∈ (runN (D ++ kidsE (es.take j) q)).1
              · rw [decide_eq_true hmm] at HIN
                have TN := hide (T3.out.skip hmm)
                clear hmm
                go_wp2_with fail
                refine HIN.out.mono ?_
                rintro r w4 ⟨rfl, hw4⟩
                have hw5 := hw4.symm
                clear hw4
                subst hw5
                go_wp2_with fail
                go_roundw
                case rel => exact ⟨j + 1, by omega, by go_num, hide (by rw [HKI.out]; exact TN.out), B3⟩
                case measure => simp [intOf]; omega
              · rw [decide_eq_false hmm] at HIN
                have HMM := hide hmm
                clear hmm
                have hm3 : LS + 1 ≤ maxLen := by unfold maxLen; omega
                have hm4 : (LS + 1) * 16 ≤ 140737488355328 := by omega
                have OS3 : Hid (w3.ownsRow w.heap.size 9 1 (.slice sv LS sc) LS ((runN (D ++ kidsE (es.take j) q)).1.map vS)) := by have := T3.out.seen; unfold OwnS at this; rw [← HLS.out] at this; exact this
                have HAP : Hid (∀ (W : World), Kept (fun b => (Value.slice sv LS sc).ownBlock = some b) w3 W → W.cell? ⟨wr.heap.size, 1, none⟩ = some (.int .i64 e.kind)) := hide (fun W hK => (hK.cell (p := ⟨wr.heap.size, 1, none⟩) F3.out.lt (fun hq => absurd (HT.out.seen.lt _ hq).2 (Nat.lt_irrefl _))).trans F3.out.2.1)
                by_cases h3 : e.kind = 3
                · have h3' : (e.kind != 3) = false := by simp [h3]
                  have HST := hide (show runN ((D ++ kidsE (es.take j) q) ++ [e]) = ((runN (D ++ kidsE (es.take j) q)).1 ++ [lastP e.path], (runN (D ++ kidsE (es.take j) q)).2) from by rw [runN_snoc, stepN, if_neg HMM.out, if_pos h3])
                  clear h3
                  go_wp2_with fail
                  refine HIN.out.mono ?_
                  rintro r w4 ⟨rfl, hw4⟩
                  have hw5 := hw4.symm
                  clear hw4
                  subst hw5
                  go_wp2_with (at_builtin; refine wpList_append_one_at rfl (.tmp 58) (.tmp 60) 100 rfl w.heap.size 9 i1 (.string ⟨#[]⟩) 1 16 Tryz.underlying100 ki kz0 kz1 kz2 rfl (by decide) _ _ _ rfl OS3.out rfl rfl (by intro u hu; simp at hu; subst hu; rfl) hm3 hm4 hwz ?_; intro v' w5 hown5 hkept hat; have O5 := hide (show OwnS w.heap.size w5 v' ((runN (D ++ kidsE (es.take j) q)).1 ++ [lastP e.path]) from OwnS.snoc (by rw [← HLS.out]; exact hown5) rfl); have K5 := hide hkept; have A5 := hide hat; have k5 := HAP.out _ hkept; clear hown5 hkept hat)
                  go_roundw
                  case rel =>
                    refine ⟨j + 1, by omega, by go_num, hide ?_, hide ?_⟩
                    · rw [HKI.out]
                      refine ⟨?_, ?_, ?_⟩
                      · rw [HST.out]; exact T3.out.out.kept K5.out (fun g hg => T3.out.apart g hg)
                      · rw [HST.out]; exact O5.out
                      · intro g hg hg2
                        rcases A5.out with h8 | ⟨g', h8, h9⟩
                        · rw [h8] at hg2; exact T3.out.apart g hg hg2
                        · rw [h8] at hg2
                          have := (T3.out.out.lt g hg).2
                          simp at hg2
                          omega
                    · exact Kept.below_own B3.out hwz OS3.out K5.out
                  case measure => simp [intOf]; omega
                · have h3' : (e.kind != 3) = true := by simp [h3]
                  have HST := hide (show runN ((D ++ kidsE (es.take j) q) ++ [e]) = ((runN (D ++ kidsE (es.take j) q)).1 ++ [lastP e.path], putS (runN (D ++ kidsE (es.take j) q)).2 (lastP e.path)) from by rw [runN_snoc, stepN, if_neg HMM.out, if_neg h3])
                  clear h3
                  have HPUT : Hid (∀ (W : World), Kept (fun b => (Value.slice sv LS sc).ownBlock = some b) w3 W → Calls Tryz.prog 219 #[.slice ov LO oc, .string (str (lastP e.path))] W fun r w' => ∃ av cv N, r = .returned (.slice av N cv) ∧ N = (putS (runN (D ++ kidsE (es.take j) q)).2 (lastP e.path)).length ∧ OwnS W.heap.size w' (.slice av N cv) (putS (runN (D ++ kidsE (es.take j) q)).2 (lastP e.path)) ∧ Below W.heap.size W w') := hide (fun W hK => (l8Put_any ov oc LO _ (lastP e.path) W (T3.out.out.kept hK (fun g hg => T3.out.apart g hg)) HLO.out (by rw [← HLO.out]; omega)).mono (fun r w' ⟨av, cv, h1, h2, h3⟩ => ⟨av, cv, _, h1, rfl, h2, h3⟩))
                  go_wp2_with fail
                  refine HIN.out.mono ?_
                  rintro r w4 ⟨rfl, hw4⟩
                  have hw5 := hw4.symm
                  clear hw4
                  subst hw5
                  go_wp2_with (at_builtin; refine wpList_append_one_at rfl (.tmp 58) (.tmp 60) 100 rfl w.heap.size 9 i1 (.string ⟨#[]⟩) 1 16 Tryz.underlying100 ki kz0 kz1 kz2 rfl (by decide) _ _ _ rfl OS3.out rfl rfl (by intro u hu; simp at hu; subst hu; rfl) hm3 hm4 hwz ?_; intro v' w5 hown5 hkept hat; have O5 := hide (show OwnS w.heap.size w5 v' ((runN (D ++ kidsE (es.take j) q)).1 ++ [lastP e.path]) from OwnS.snoc (by rw [← HLS.out]; exact hown5) rfl); have K5 := hide hkept; have A5 := hide hat; have k5 := HAP.out _ hkept; clear hown5 hkept hat)
                  refine (HPUT.out w5 K5.out).mono ?_
                  rintro r w6 ⟨av6, cv6, N6, rfl, hN6, hO6, hb6⟩
                  have HN6 := hide hN6
                  have O6 := hide hO6
                  have B6 := hide hb6
                  have BW5 := hide (Kept.below_own B3.out hwz OS3.out K5.out)
                  have hwz5 := BW5.out.size
                  clear hN6 hO6 hb6
                  go_wp2_with fail
                  go_roundw
                  case rel =>
                    refine ⟨j + 1, by omega, by go_num, hide ?_, hide ?_⟩
                    · rw [HKI.out]
                      refine ⟨?_, ?_, ?_⟩
                      · rw [HST.out]; exact O6.out.mono hwz5
                      · rw [HST.out]; exact O5.out.below B6.out
                      · intro g hg hg2
                        have h8 := (O6.out.lt g hg).1
                        have h9 := (O5.out.lt g hg2).2
                        omega
                    · exact below_next BW5.out B6.out
                  case measure => simp [intOf]; omega
            · have hs1 := str_no hqq
              have HKI := hide (show D ++ kidsE (es.take (j + 1)) q = D ++ kidsE (es.take j) q from by rw [kids_out HXe.out hqq])
              clear hqq
              go_wp2_with fail
              go_roundw
              case rel => exact ⟨j + 1, by omega, by go_num, hide (by rw [HKI.out]; exact T3.out), B3⟩
              case measure => simp [intOf]; omega
          · have hE : es.take j = es := List.take_of_length_le (by omega)
            rw [hE] at HT HLS HLO
            clear hE
            by_cases h1 : HH = 1
            · have HE := hide (HHq.out.1 h1)
              have HO : Hid (OwnS w.heap.size wr (.slice ov LO oc) (namesE (allE ls) q)) := hide (by have := HT.out.out; rw [← HNM.out, ← HE.out]; exact this)
              have HL := hide (show LO = (namesE (allE ls) q).length by rw [← HNM.out, ← HE.out]; exact HLO.out)
              subst h1
              go_wp2_with fail
              go_ret
              exact ⟨ov, oc, by rw [← HL.out]; rfl, by rw [← HL.out]; exact HO.out, HW.out⟩
            · have HE := hide (HHq.out.2 h1)
              have h1' : (HH == 1) = false := by simpa using h1
              clear h1
              go_wp2_with fail
              go_roundw
              case rel => exact ⟨m, D ++ kidsE es q, by omega, rfl, HE, HT, HW⟩
              case measure => simp [intOf]
end Go.Proofs.YtolnlfnndnpiiaaGreat

